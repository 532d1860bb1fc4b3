/-
  The document's Uncross where it trades.
-/
import Derived.Test.YtnmkfdndfhefiaaGreatGg
namespace Go.Proofs.YtnmkfdndfhefiaaGreat
open Go.RowKit Go.Deep Go.Shelf
set_option linter.unusedVariables false
set_option linter.unusedSimpArgs false
set_option maxHeartbeats 16000000
set_option maxRecDepth 100000
attribute [local go_sem ↓] Go.wp_at_zero Go.wp_at_succ
theorem runcross_some (r m : Int) (p : Option Addr) (c : Nat) (L0 : List It) (z : Qt) (w : World) (h : Li w p c L0) (hk : Lk L0) (hr : isP r = true) (hq : dqt r (dcs r L0) = some z) (hvg : Vg z.vo (iso 1 L0) (iso 2 L0)) :
    Calls Tryz.prog 20 #[.agg #[.int .i64 r, .int .i64 m, .slice p L0.length c]] w fun e w' => ∃ p' c' L' pf cf, e = .returned (.tuple #[.agg #[.int .i64 r, .int .i64 m, .slice p' (L' : List It).length c'], .slice pf (trd z.pr ((iso 1 L0).length + (iso 2 L0).length) z.vo (iso 1 L0) (iso 2 L0)).1.length cf, .agg #[.int .i64 z.pr, .int .u64 z.vo, .int .u64 z.su, .int .i64 z.sd, .int .i64 z.ru], .bool true]) ∧ Li w' p' c' L' ∧ Lk L' ∧ (iso 1 L', iso 2 L') = (trd z.pr ((iso 1 L0).length + (iso 2 L0).length) z.vo (iso 1 L0) (iso 2 L0)).2 ∧ Fz w' pf cf (trd z.pr ((iso 1 L0).length + (iso 2 L0).length) z.vo (iso 1 L0) (iso 2 L0)).1 ∧ Below w.heap.size w w' ∧ (∀ g, OfP p' g → OfP p g ∨ w.heap.size ≤ g) := by
  have CQ := hid (fun (U : World) (hU : Below w.heap.size w U) => rquote_any r m p c L0 U (h.on hU) hk hr)
  rw [hq] at CQ
  obtain ⟨R, hR⟩ : ∃ R, w.heap.size = R := ⟨_, rfl⟩
  have HRR := hid hR
  obtain ⟨n, hnn⟩ : ∃ n, L0.length = n := ⟨_, rfl⟩
  have HNN := hid hnn
  rw [hnn] at CQ ⊢
  obtain ⟨U1, hU1⟩ : ∃ U, w.alloc (.cells #[.int .i64 r, .int .i64 m, .slice p n c] 29) = U := ⟨_, rfl⟩
  obtain ⟨U2, hU2⟩ : ∃ U, U1.alloc (.cells #[.int .i64 0, .int .i64 0, .slice none 0 0] 29) = U := ⟨_, rfl⟩
  obtain ⟨W, hW⟩ : ∃ U, U2.alloc (.cells #[.int .i64 0, .int .u64 0, .int .u64 0, .int .i64 0, .int .i64 0] 57) = U := ⟨_, rfl⟩
  have s1 : U1.heap.size = R + 1 := by rw [← hU1, ← hR]; simp
  have s2 : U2.heap.size = R + 2 := by rw [← hU2]; simp [s1]
  have b1 : Below w.heap.size w U1 := by rw [← hU1]; exact ball _ _
  have b2 : Below U1.heap.size U1 U2 := by rw [← hU2]; exact ball _ _
  have b3 : Below U2.heap.size U2 W := by rw [← hW]; exact ball _ _
  have HBW := hid (btr (btr b1 b2) b3)
  have HK := hid (show W.heap[R]? = some (.cells #[.int .i64 r, .int .i64 m, .slice p n c] 29 (0, 0)) from row_on (row_on (by rw [← hU1, ← hR]; exact World.alloc_heap_new _ _) b2) b3)
  have HK1 := hid (show W.heap[R + 1]? = some (.cells #[.int .i64 0, .int .i64 0, .slice none 0 0] 29 (0, 0)) from row_on (by rw [← hU2, ← s1]; exact World.alloc_heap_new _ _) b3)
  have HZ := hid (show W.heap[R + 2]? = some (.cells #[.int .i64 0, .int .u64 0, .int .u64 0, .int .i64 0, .int .i64 0] 57 (0, 0)) from by rw [← hW, ← s2]; exact World.alloc_heap_new _ _)
  obtain ⟨k0, k1, k2⟩ := row3 HK.out
  have H1 := hid hU1
  have H2 := hid hU2
  have HW := hid hW
  have CC := hid (show Calls Tryz.prog 18 #[.agg #[.int .i64 r, .int .i64 m, .slice p n c]] W fun e w' => e = .returned (.tuple #[.agg #[.int .i64 z.pr, .int .u64 z.vo, .int .u64 z.su, .int .i64 z.sd, .int .i64 z.ru], .bool true]) ∧ Below W.heap.size W w' from CQ.out W HBW.out)
  have HLI := hid (fun (U : World) (hU : Below w.heap.size w U) => h.on hU)
  have HVG := hid hvg
  have HLK := hid hk
  obtain ⟨TR, hTR⟩ : ∃ T, trd z.pr ((iso 1 L0).length + (iso 2 L0).length) z.vo (iso 1 L0) (iso 2 L0) = T := ⟨_, rfl⟩
  have HTR := hid hTR
  have HTL := hid (show TR.1.length ≤ 8192 from by rw [← hTR]; have h1 := trd_len z.pr ((iso 1 L0).length + (iso 2 L0).length) z.vo (iso 1 L0) (iso 2 L0); have h2 := hk.lens; have h3 := hk.ln; omega)
  rw [hTR]
  clear hW hU1 hU2 hR s1 s2 b1 b2 b3 h hk hr hq hnn CQ hvg hTR
  go_enter Tryz.func20, Tryz.ntmps20
  go_upto_region 1 with fail
  rw [H1.out, H2.out, HW.out, HRR.out]
  go_upto_region 4 with (go_at_call 18; with_reducible refine (CC.out).mono ?_; rintro e v1 ⟨rfl, hb⟩; have V1 := hid hb; clear hb)
  clear k0 k1 k2
  obtain ⟨X, hX⟩ : ∃ X, v1.alloc (.cells #[.int .i64 z.pr, .int .u64 z.vo, .int .u64 z.su, .int .i64 z.sd, .int .i64 z.ru] 57) = X := ⟨_, rfl⟩
  obtain ⟨γ, hγ⟩ : ∃ g, v1.heap.size = g := ⟨_, rfl⟩
  have BX := hid (show Below v1.heap.size v1 X from by rw [← hX]; exact ball _ _)
  have hXg : X.heap[γ]? = some (.cells #[.int .i64 z.pr, .int .u64 z.vo, .int .u64 z.su, .int .i64 z.sd, .int .i64 z.ru] 57 (0, 0)) := by rw [← hX, ← hγ]; exact World.alloc_heap_new _ _
  rw [hX, hγ]
  have HU0 := hid (show Uc w X R γ r m z TR.1 TR.2.1 TR.2.2 L0 p c p z.vo [] none 0 from ⟨by rw [HNN.out]; exact row_on HK.out (btr V1.out BX.out), row_on HK1.out (btr V1.out BX.out), row_on HZ.out (btr V1.out BX.out), hXg, HLI.out X (btr HBW.out (btr V1.out BX.out)), HLK.out, HVG.out, ⟨_, Nat.le_refl _, by rw [HTR.out]; rfl, by rw [HTR.out]⟩, ⟨rfl, .inl ⟨rfl, rfl⟩⟩, btr HBW.out (btr V1.out BX.out), fun g hg => .inl hg⟩)
  have hγR : R + 2 < γ := by have := row_lt (row_on HZ.out V1.out); omega
  obtain ⟨z0, z1, z2, z3, z4⟩ := row5 hXg
  clear hX hγ hXg
  go_upto_region 6 with fail
  go_loopw [8, 9] (fun fv lv wr => ∃ (L : List It) (pL : Option Addr) (nL cL : Nat) (left : Int) (F0 : List Fi) (pf : Option Addr) (nf cf : Nat), fv = .slice pf nf cf ∧ lv = .int .u64 left ∧ 0 ≤ left ∧ Hid (F0.length = nf) ∧ Hid (L.length = nL) ∧ Hid (Uc w wr R γ r m z TR.1 TR.2.1 TR.2.2 L pL cL p left F0 pf cf)) (fun _ lv _ => (intOf lv).toNat)
  case atStart => exact ⟨L0, p, n, c, z.vo, [], none, 0, 0, rfl, rfl, HVG.out.ge, hid rfl, HNN, HU0⟩
  case round =>
    obtain ⟨L, pL, nL, cL, left, F0, pf, nf, cf, rfl, rfl, l0, HNF, HNL, HU⟩ := hrel
    clear HU0
    by_cases hl : 0 < left
    · obtain ⟨x, xs, y, ys, e1, e2, hx, hy, sx, sy, qx0, qx1, qy0, qy1, hn, hv', f', hf', t1, t2⟩ := HU.out.next hl
      have HXL := hid hx
      have HYL := hid hy
      have HSX := hid sx
      have HSY := hid sy
      have HVN := hid hv'
      have HF1 := hid hf'
      have HT1 := hid t1
      have HT2 := hid t2
      have HE1 := hid e1
      have HE2 := hid e2
      obtain ⟨nb, hnb⟩ : ∃ k, (x :: xs).length = k := ⟨_, rfl⟩
      obtain ⟨ns, hns⟩ : ∃ k, (y :: ys).length = k := ⟨_, rfl⟩
      have C1 := hid (fun (U : World) (hU : Below wr.heap.size wr U) => first_any r m 1 pL cL L x xs nL nb U (HU.out.li.on hU) HU.out.lk HE1.out HNL.out hnb)
      have C2 := hid (fun (U : World) (hU : Below wr.heap.size wr U) => first_any r m 2 pL cL L y ys nL ns U (HU.out.li.on hU) HU.out.lk HE2.out HNL.out hns)
      have nb0 : (0 : Int) < (nb : Int) := by simp at hnb; omega
      have ns0 : (0 : Int) < (ns : Int) := by simp at hns; omega
      have nbn : 0 < nb := by omega
      have nsn : 0 < ns := by omega
      have d0 : decide (0 < left) = true := decide_eq_true hl
      have HRW := hid (show wr.heap[R]? = some (.cells #[.int .i64 r, .int .i64 m, .slice pL nL cL] 29 (0, 0)) from by have := HU.out.row; rw [HNL.out] at this; exact this)
      have AIx := hid (show (Tryz.prog.info? 35).map (·.size) = some (#[.int .u64 x.id, .int .u32 x.mb, .int .i64 x.sd, .int .i64 x.ty, .int .i64 x.pr, .int .u64 x.qt] : Array Value).size from infoI6)
      have ASx := hid (show (#[.int .u64 0, .int .u32 0, .int .i64 0, .int .i64 0, .int .i64 0, .int .u64 0] : Array Value).size = (#[.int .u64 x.id, .int .u32 x.mb, .int .i64 x.sd, .int .i64 x.ty, .int .i64 x.pr, .int .u64 x.qt] : Array Value).size from rfl)
      have AAx := hid (show (#[.int .u64 x.id, .int .u32 x.mb, .int .i64 x.sd, .int .i64 x.ty, .int .i64 x.pr, .int .u64 x.qt] : Array Value).all (·.oneCell') = true from by simp [Value.oneCell'])
      have AIy := hid (show (Tryz.prog.info? 35).map (·.size) = some (#[.int .u64 y.id, .int .u32 y.mb, .int .i64 y.sd, .int .i64 y.ty, .int .i64 y.pr, .int .u64 y.qt] : Array Value).size from infoI6)
      have ASy := hid (show (#[.int .u64 0, .int .u32 0, .int .i64 0, .int .i64 0, .int .i64 0, .int .u64 0] : Array Value).size = (#[.int .u64 y.id, .int .u32 y.mb, .int .i64 y.sd, .int .i64 y.ty, .int .i64 y.pr, .int .u64 y.qt] : Array Value).size from rfl)
      have AAy := hid (show (#[.int .u64 y.id, .int .u32 y.mb, .int .i64 y.sd, .int .i64 y.ty, .int .i64 y.pr, .int .u64 y.qt] : Array Value).all (·.oneCell') = true from by simp [Value.oneCell'])
      have HLF := hid hn
      have HQQ := hid (show (1 ≤ x.qt ∧ x.qt ≤ 4294967295) ∧ (1 ≤ y.qt ∧ y.qt ≤ 4294967295) from ⟨⟨qx0, qx1⟩, qy0, qy1⟩)
      have HPL := hid hl
      clear hx hy sx sy hv' hf' t1 t2 e1 e2 hnb hns hl hn qx0 qx1 qy0 qy1
      go_upto_region 7 with fail
      refine reg_cut (X := Nat × Nat × Nat × Nat × Nat × Nat) (fun a t => (((((((((a.put (some 26) (.agg #[.int .i64 r, .int .i64 m, .slice pL nL cL])).put (some 27) (.slice (some ⟨t.2.2.1, 0, none⟩) nb t.2.2.2.1)).put (some 28) (.pointer (some ⟨t.2.2.1, 0, none⟩))).put (some 29) (.agg #[.int .u64 x.id, .int .u32 x.mb, .int .i64 x.sd, .int .i64 x.ty, .int .i64 x.pr, .int .u64 x.qt])).put (some 30) (.agg #[.int .i64 r, .int .i64 m, .slice pL nL cL])).put (some 31) (.slice (some ⟨t.2.2.2.2.1, 0, none⟩) ns t.2.2.2.2.2)).put (some 32) (.pointer (some ⟨t.2.2.2.2.1, 0, none⟩))).put (some 33) (.agg #[.int .u64 y.id, .int .u32 y.mb, .int .i64 y.sd, .int .i64 y.ty, .int .i64 y.pr, .int .u64 y.qt])).put (some 10) (.pointer (some ⟨t.1, 0, none⟩))).put (some 11) (.pointer (some ⟨t.2.1, 0, none⟩))) (fun X W => Hid (Below wr.heap.size wr W) ∧ Hid (wr.heap.size ≤ X.1) ∧ Hid (wr.heap.size ≤ X.2.1) ∧ Hid (W.heap[X.1]? = some (.cells #[.int .u64 x.id, .int .u32 x.mb, .int .i64 x.sd, .int .i64 x.ty, .int .i64 x.pr, .int .u64 x.qt] 35 (0, 0))) ∧ Hid (W.heap[X.2.1]? = some (.cells #[.int .u64 y.id, .int .u32 y.mb, .int .i64 y.sd, .int .i64 y.ty, .int .i64 y.pr, .int .u64 y.qt] 35 (0, 0))) ∧ Hid (X.1 ≠ X.2.1)) ?_ ?_
      · obtain ⟨V0, hV0⟩ : ∃ U, wr.drew = U := ⟨_, rfl⟩
        have BV0 := hid (show Below wr.heap.size wr V0 from by rw [← hV0]; exact bdrew1 _)
        have RV0 := hid (row_on HRW.out BV0.out)
        refine wp_region_held_drew (S := (fun U => U.cell? ⟨R, 0, none⟩ = some (.int .i64 r) ∧ U.cell? ⟨R, 1, none⟩ = some (.int .i64 m) ∧ U.cell? ⟨R, 2, none⟩ = some (.slice pL nL cL))) (by kernel_rfl) ?_ (fun hHeld => ?_)
        · (try dsimp only); rw [hV0]; obtain ⟨s0, s1, s2⟩ := row3 RV0.out; exact ⟨s0, s1, s2⟩
        rw [hV0] at hHeld ⊢
        clear hV0
        refine' wpAnyH_take (i := 0) (oi := _) (v := _) rfl (by kernel_rfl) (by kernel_rfl) (by kernel_rfl) (fun _ _ _ h => h) (Or.inl ⟨by kernel_rfl, ?_⟩) (by assumption) ?_
        rotate_left
        · (intro w hSw; (try dsimp only at hSw); go_simp; try (with_reducible rfl))
        try simp only [List.getElem_toArray, List.getElem_cons_succ, List.getElem_cons_zero, Act.put, List.setIfInBounds_toArray, List.set_cons_zero, List.set_cons_succ]
        refine' wpAnyH_take (i := 4) (oi := _) (v := _) rfl (by kernel_rfl) (by kernel_rfl) (by kernel_rfl) (fun _ _ _ h => h) (Or.inl ⟨by kernel_rfl, ?_⟩) (by assumption) ?_
        rotate_left
        · (intro w hSw; (try dsimp only at hSw); go_simp; try (with_reducible rfl))
        try simp only [List.getElem_toArray, List.getElem_cons_succ, List.getElem_cons_zero, Act.put, List.setIfInBounds_toArray, List.set_cons_zero, List.set_cons_succ]
        refine wpAnyH_ready (rs := [1, 8, 9]) (by kernel_rfl) (by simp) ?_
        refine (AllReadyH.cons (o := _) rfl (fun K hK => ?_) (AllReadyH.cons (o := _) rfl (fun K hK => ?_) (AllReadyH.cons (o := _) rfl (fun K hK => ?_) AllReadyH.nil)))
        · go_simp
          go_at_call 25
          with_reducible refine (C1.out V0 BV0.out).mono ?_
          rintro e X1 ⟨g1, c1, cu1, rfl, DX1, GX1, EX1, MX1⟩
          have r2 := hid (row_on RV0.out DX1.out)
          have BX1 := hid (btr BV0.out DX1.out)
          (try go_wp2_with fail)
          refine hK.out _ _ ?_ (fun hHeld => ?_)
          · (try dsimp only); obtain ⟨s0, s1, s2⟩ := row3 r2.out; exact ⟨s0, s1, s2⟩
          clear hK K hHeld
          try simp only [List.getElem_toArray, List.getElem_cons_succ, List.getElem_cons_zero, Act.put, List.setIfInBounds_toArray, List.set_cons_zero, List.set_cons_succ]
          refine wpAnyH_more (S' := (fun U => U.cell? ⟨R, 0, none⟩ = some (.int .i64 r) ∧ U.cell? ⟨R, 1, none⟩ = some (.int .i64 m) ∧ U.cell? ⟨R, 2, none⟩ = some (.slice pL nL cL) ∧ U.cell? ⟨g1, 0, none⟩ = some (.int .u64 x.id) ∧ U.cell? ⟨g1, 1, none⟩ = some (.int .u32 x.mb) ∧ U.cell? ⟨g1, 2, none⟩ = some (.int .i64 x.sd) ∧ U.cell? ⟨g1, 3, none⟩ = some (.int .i64 x.ty) ∧ U.cell? ⟨g1, 4, none⟩ = some (.int .i64 x.pr) ∧ U.cell? ⟨g1, 5, none⟩ = some (.int .u64 x.qt))) (fun U h => by obtain ⟨h0, h1, h2, h3, h4, h5, h6, h7, h8⟩ := h; exact ⟨h0, h1, h2⟩) _ _ _ _ ?_
          have hHeld : (fun U => U.cell? ⟨R, 0, none⟩ = some (.int .i64 r) ∧ U.cell? ⟨R, 1, none⟩ = some (.int .i64 m) ∧ U.cell? ⟨R, 2, none⟩ = some (.slice pL nL cL) ∧ U.cell? ⟨g1, 0, none⟩ = some (.int .u64 x.id) ∧ U.cell? ⟨g1, 1, none⟩ = some (.int .u32 x.mb) ∧ U.cell? ⟨g1, 2, none⟩ = some (.int .i64 x.sd) ∧ U.cell? ⟨g1, 3, none⟩ = some (.int .i64 x.ty) ∧ U.cell? ⟨g1, 4, none⟩ = some (.int .i64 x.pr) ∧ U.cell? ⟨g1, 5, none⟩ = some (.int .u64 x.qt)) X1 := by dsimp only; obtain ⟨s0, s1, s2⟩ := row3 r2.out; obtain ⟨u0, u1, u2, u3, u4, u5⟩ := MX1.out.at EX1.out; exact ⟨s0, s1, s2, u0, u1, u2, u3, u4, u5⟩
          dsimp only at hHeld
          refine' wpAnyH_take (i := 2) (oi := _) (v := _) rfl (by kernel_rfl) (by kernel_rfl) (by kernel_rfl) (fun _ _ _ h => h) (Or.inl ⟨by kernel_rfl, ?_⟩) (by assumption) ?_
          rotate_left
          · (intro w hSw; (try dsimp only at hSw); go_simp; try (with_reducible rfl))
          try simp only [List.getElem_toArray, List.getElem_cons_succ, List.getElem_cons_zero, Act.put, List.setIfInBounds_toArray, List.set_cons_zero, List.set_cons_succ]
          refine' wpAnyH_take (i := 3) (oi := _) (v := _) rfl (by kernel_rfl) (by kernel_rfl) (by kernel_rfl) (fun _ _ _ h => h) (Or.inl ⟨by kernel_rfl, ?_⟩) (by assumption) ?_
          rotate_left
          · (intro w hSw; (try dsimp only at hSw); go_simp; try (with_reducible rfl))
          try simp only [List.getElem_toArray, List.getElem_cons_succ, List.getElem_cons_zero, Act.put, List.setIfInBounds_toArray, List.set_cons_zero, List.set_cons_succ]
          refine wpAnyH_ready (rs := [5, 8, 9]) (by kernel_rfl) (by simp) ?_
          refine (AllReadyH.cons (o := _) rfl (fun K hK => ?_) (AllReadyH.cons (o := _) rfl (fun K hK => ?_) (AllReadyH.cons (o := _) rfl (fun K hK => ?_) AllReadyH.nil)))
          · go_simp
            go_at_call 25
            with_reducible refine (C2.out X1 BX1.out).mono ?_
            rintro e X3 ⟨g2, c2, cu2, rfl, DX3, GX3, EX3, MX3⟩
            have r4 := hid (row_on r2.out DX3.out)
            have r5 := hid (row_on EX1.out DX3.out)
            have BX3 := hid (btr BX1.out DX3.out)
            (try go_wp2_with fail)
            refine hK.out _ _ ?_ (fun hHeld => ?_)
            · (try dsimp only); obtain ⟨s0, s1, s2⟩ := row3 r4.out; obtain ⟨u0, u1, u2, u3, u4, u5⟩ := MX1.out.at r5.out; exact ⟨s0, s1, s2, u0, u1, u2, u3, u4, u5⟩
            clear hK K hHeld
            try simp only [List.getElem_toArray, List.getElem_cons_succ, List.getElem_cons_zero, Act.put, List.setIfInBounds_toArray, List.set_cons_zero, List.set_cons_succ]
            refine wpAnyH_more (S' := (fun U => U.cell? ⟨R, 0, none⟩ = some (.int .i64 r) ∧ U.cell? ⟨R, 1, none⟩ = some (.int .i64 m) ∧ U.cell? ⟨R, 2, none⟩ = some (.slice pL nL cL) ∧ U.cell? ⟨g1, 0, none⟩ = some (.int .u64 x.id) ∧ U.cell? ⟨g1, 1, none⟩ = some (.int .u32 x.mb) ∧ U.cell? ⟨g1, 2, none⟩ = some (.int .i64 x.sd) ∧ U.cell? ⟨g1, 3, none⟩ = some (.int .i64 x.ty) ∧ U.cell? ⟨g1, 4, none⟩ = some (.int .i64 x.pr) ∧ U.cell? ⟨g1, 5, none⟩ = some (.int .u64 x.qt) ∧ U.cell? ⟨g2, 0, none⟩ = some (.int .u64 y.id) ∧ U.cell? ⟨g2, 1, none⟩ = some (.int .u32 y.mb) ∧ U.cell? ⟨g2, 2, none⟩ = some (.int .i64 y.sd) ∧ U.cell? ⟨g2, 3, none⟩ = some (.int .i64 y.ty) ∧ U.cell? ⟨g2, 4, none⟩ = some (.int .i64 y.pr) ∧ U.cell? ⟨g2, 5, none⟩ = some (.int .u64 y.qt))) (fun U h => by obtain ⟨h0, h1, h2, h3, h4, h5, h6, h7, h8, h9, h10, h11, h12, h13, h14⟩ := h; exact ⟨h0, h1, h2, h3, h4, h5, h6, h7, h8⟩) _ _ _ _ ?_
            have hHeld : (fun U => U.cell? ⟨R, 0, none⟩ = some (.int .i64 r) ∧ U.cell? ⟨R, 1, none⟩ = some (.int .i64 m) ∧ U.cell? ⟨R, 2, none⟩ = some (.slice pL nL cL) ∧ U.cell? ⟨g1, 0, none⟩ = some (.int .u64 x.id) ∧ U.cell? ⟨g1, 1, none⟩ = some (.int .u32 x.mb) ∧ U.cell? ⟨g1, 2, none⟩ = some (.int .i64 x.sd) ∧ U.cell? ⟨g1, 3, none⟩ = some (.int .i64 x.ty) ∧ U.cell? ⟨g1, 4, none⟩ = some (.int .i64 x.pr) ∧ U.cell? ⟨g1, 5, none⟩ = some (.int .u64 x.qt) ∧ U.cell? ⟨g2, 0, none⟩ = some (.int .u64 y.id) ∧ U.cell? ⟨g2, 1, none⟩ = some (.int .u32 y.mb) ∧ U.cell? ⟨g2, 2, none⟩ = some (.int .i64 y.sd) ∧ U.cell? ⟨g2, 3, none⟩ = some (.int .i64 y.ty) ∧ U.cell? ⟨g2, 4, none⟩ = some (.int .i64 y.pr) ∧ U.cell? ⟨g2, 5, none⟩ = some (.int .u64 y.qt)) X3 := by dsimp only; obtain ⟨s0, s1, s2⟩ := row3 r4.out; obtain ⟨u0, u1, u2, u3, u4, u5⟩ := MX1.out.at r5.out; obtain ⟨v0, v1', v2, v3, v4, v5⟩ := MX3.out.at EX3.out; exact ⟨s0, s1, s2, u0, u1, u2, u3, u4, u5, v0, v1', v2, v3, v4, v5⟩
            dsimp only at hHeld
            refine' wpAnyH_take (i := 6) (oi := _) (v := _) rfl (by kernel_rfl) (by kernel_rfl) (by kernel_rfl) (fun _ _ _ h => h) (Or.inl ⟨by kernel_rfl, ?_⟩) (by assumption) ?_
            rotate_left
            · (intro w hSw; (try dsimp only at hSw); go_simp; try (with_reducible rfl))
            try simp only [List.getElem_toArray, List.getElem_cons_succ, List.getElem_cons_zero, Act.put, List.setIfInBounds_toArray, List.set_cons_zero, List.set_cons_succ]
            refine' wpAnyH_take (i := 7) (oi := _) (v := _) rfl (by kernel_rfl) (by kernel_rfl) (by kernel_rfl) (fun _ _ _ h => h) (Or.inl ⟨by kernel_rfl, ?_⟩) (by assumption) ?_
            rotate_left
            · (intro w hSw; (try dsimp only at hSw); go_simp; try (with_reducible rfl))
            try simp only [List.getElem_toArray, List.getElem_cons_succ, List.getElem_cons_zero, Act.put, List.setIfInBounds_toArray, List.set_cons_zero, List.set_cons_succ]
            refine wpAnyH_ready (rs := [8, 9]) (by kernel_rfl) (by simp) ?_
            refine (AllReadyH.cons (o := _) rfl (fun K hK => ?_) (AllReadyH.cons (o := _) rfl (fun K hK => ?_) AllReadyH.nil))
            · go_simp
              obtain ⟨X6, hX6⟩ : ∃ X, X3.alloc (.cells #[.int .u64 0, .int .u32 0, .int .i64 0, .int .i64 0, .int .i64 0, .int .u64 0] 35) = X := ⟨_, rfl⟩
              have bX6 : Below X3.heap.size X3 X6 := by rw [← hX6]; exact ball _ _
              have r8 := hid (row_on r4.out bX6)
              have r9 := hid (row_on r5.out bX6)
              have r10 := hid (row_on EX3.out bX6)
              have BX6 := hid (btr BX3.out bX6)
              have zX6 : X6.heap[X3.heap.size]? = some (.cells #[.int .u64 0, .int .u32 0, .int .i64 0, .int .i64 0, .int .i64 0, .int .u64 0] 35 (0, 0)) := by rw [← hX6]; exact World.alloc_heap_new _ _
              have yg7 := BX3.out.size
              obtain ⟨g7, hg7⟩ : ∃ g, X3.heap.size = g := ⟨_, rfl⟩
              have ne_a_R : g7 ≠ R := by have := row_lt r4.out; omega
              have ne_a_g1 : g7 ≠ g1 := by have := row_lt r5.out; omega
              have ne_a_g2 : g7 ≠ g2 := by have := row_lt EX3.out; omega
              rw [hg7] at zX6 yg7
              have ZX6 := hid zX6
              rw [hX6, hg7]
              clear hX6 hg7 zX6 bX6
              refine hK.out _ _ ?_ (fun hHeld => ?_)
              · (try dsimp only); obtain ⟨s0, s1, s2⟩ := row3 r8.out; obtain ⟨u0, u1, u2, u3, u4, u5⟩ := MX1.out.at r9.out; obtain ⟨v0, v1', v2, v3, v4, v5⟩ := MX3.out.at r10.out; exact ⟨s0, s1, s2, u0, u1, u2, u3, u4, u5, v0, v1', v2, v3, v4, v5⟩
              clear hK K
              try simp only [List.getElem_toArray, List.getElem_cons_succ, List.getElem_cons_zero, Act.put, List.setIfInBounds_toArray, List.set_cons_zero, List.set_cons_succ]
              refine wpAnyH_ready (rs := [9]) (by kernel_rfl) (by simp) ?_
              refine (AllReadyH.cons (o := _) rfl (fun K hK => ?_) AllReadyH.nil)
              go_simp
              obtain ⟨X11, hX11⟩ : ∃ X, X6.alloc (.cells #[.int .u64 0, .int .u32 0, .int .i64 0, .int .i64 0, .int .i64 0, .int .u64 0] 35) = X := ⟨_, rfl⟩
              have bX11 : Below X6.heap.size X6 X11 := by rw [← hX11]; exact ball _ _
              have r13 := hid (row_on r8.out bX11)
              have r14 := hid (row_on r9.out bX11)
              have r15 := hid (row_on r10.out bX11)
              have r16 := hid (row_on ZX6.out bX11)
              have BX11 := hid (btr BX6.out bX11)
              have zX11 : X11.heap[X6.heap.size]? = some (.cells #[.int .u64 0, .int .u32 0, .int .i64 0, .int .i64 0, .int .i64 0, .int .u64 0] 35 (0, 0)) := by rw [← hX11]; exact World.alloc_heap_new _ _
              have yg12 := BX6.out.size
              obtain ⟨g12, hg12⟩ : ∃ g, X6.heap.size = g := ⟨_, rfl⟩
              have ne_b_R : g12 ≠ R := by have := row_lt r8.out; omega
              have ne_b_g1 : g12 ≠ g1 := by have := row_lt r9.out; omega
              have ne_b_g2 : g12 ≠ g2 := by have := row_lt r10.out; omega
              have ne_b_a : g12 ≠ g7 := by have := row_lt ZX6.out; omega
              rw [hg12] at zX11 yg12
              have ZX11 := hid zX11
              rw [hX11, hg12]
              clear hX11 hg12 zX11 bX11
              refine hK.out _ _ ?_ (fun hHeld => ?_)
              · (try dsimp only); obtain ⟨s0, s1, s2⟩ := row3 r13.out; obtain ⟨u0, u1, u2, u3, u4, u5⟩ := MX1.out.at r14.out; obtain ⟨v0, v1', v2, v3, v4, v5⟩ := MX3.out.at r15.out; exact ⟨s0, s1, s2, u0, u1, u2, u3, u4, u5, v0, v1', v2, v3, v4, v5⟩
              clear hK K
              try simp only [List.getElem_toArray, List.getElem_cons_succ, List.getElem_cons_zero, Act.put, List.setIfInBounds_toArray, List.set_cons_zero, List.set_cons_succ]
              refine wpAnyH_ready (rs := [10]) (by kernel_rfl) (by simp) ?_
              refine AllReadyH.cons (o := _) rfl (fun KK hK => ?_) AllReadyH.nil
              refine step_store_row (by rfl) 35 (.tmp 10) (.tmp 29) (by rfl) g7 #[.int .u64 x.id, .int .u32 x.mb, .int .i64 x.sd, .int .i64 x.ty, .int .i64 x.pr, .int .u64 x.qt] (by rfl) (by rfl) 35 _ r16.out AIx.out ASx.out AAx.out ?_
              obtain ⟨Y17, hY17⟩ : ∃ Y, X11.setRow g7 #[.int .u64 x.id, .int .u32 x.mb, .int .i64 x.sd, .int .i64 x.ty, .int .i64 x.pr, .int .u64 x.qt] = Y := ⟨_, rfl⟩
              have KY17 := hid (show Kp (fun j => j = g7) X11 Y17 from by rw [← hY17]; exact setRow_kp _ _ _)
              have AY17 := hid (show Y17.heap[g7]? = some (.cells #[.int .u64 x.id, .int .u32 x.mb, .int .i64 x.sd, .int .i64 x.ty, .int .i64 x.pr, .int .u64 x.qt] 35 (0, 0)) from by rw [← hY17]; exact setRow_heap X11 g7 _ _ 35 (0, 0) r16.out)
              have BY17 := hid (show Below wr.heap.size wr Y17 from by rw [← hY17]; exact setRow_below BX11.out yg7)
              have r18 := hid (KY17.out.row r13.out (fun e => ne_a_R e.symm))
              have r19 := hid (KY17.out.row r14.out (fun e => ne_a_g1 e.symm))
              have r20 := hid (KY17.out.row r15.out (fun e => ne_a_g2 e.symm))
              have r21 := hid (KY17.out.row ZX11.out (fun e => ne_b_a e))
              rw [hY17]
              refine hK.out _ _ ?_ (fun hHeld => ?_)
              · (try dsimp only); obtain ⟨s0, s1, s2⟩ := row3 r18.out; obtain ⟨u0, u1, u2, u3, u4, u5⟩ := MX1.out.at r19.out; obtain ⟨v0, v1', v2, v3, v4, v5⟩ := MX3.out.at r20.out; exact ⟨s0, s1, s2, u0, u1, u2, u3, u4, u5, v0, v1', v2, v3, v4, v5⟩
              clear hK hY17
              try simp only [List.getElem_toArray, List.getElem_cons_succ, List.getElem_cons_zero, Act.put, List.setIfInBounds_toArray, List.set_cons_zero, List.set_cons_succ]
              refine wpAnyH_ready (rs := [11]) (by kernel_rfl) (by simp) ?_
              refine AllReadyH.cons (o := _) rfl (fun KK hK => ?_) AllReadyH.nil
              refine step_store_row (by rfl) 35 (.tmp 11) (.tmp 33) (by rfl) g12 #[.int .u64 y.id, .int .u32 y.mb, .int .i64 y.sd, .int .i64 y.ty, .int .i64 y.pr, .int .u64 y.qt] (by rfl) (by rfl) 35 _ r21.out AIy.out ASy.out AAy.out ?_
              obtain ⟨Y22, hY22⟩ : ∃ Y, Y17.setRow g12 #[.int .u64 y.id, .int .u32 y.mb, .int .i64 y.sd, .int .i64 y.ty, .int .i64 y.pr, .int .u64 y.qt] = Y := ⟨_, rfl⟩
              have KY22 := hid (show Kp (fun j => j = g12) Y17 Y22 from by rw [← hY22]; exact setRow_kp _ _ _)
              have AY22 := hid (show Y22.heap[g12]? = some (.cells #[.int .u64 y.id, .int .u32 y.mb, .int .i64 y.sd, .int .i64 y.ty, .int .i64 y.pr, .int .u64 y.qt] 35 (0, 0)) from by rw [← hY22]; exact setRow_heap Y17 g12 _ _ 35 (0, 0) r21.out)
              have BY22 := hid (show Below wr.heap.size wr Y22 from by rw [← hY22]; exact setRow_below BY17.out yg12)
              have r23 := hid (KY22.out.row r18.out (fun e => ne_b_R e.symm))
              have r24 := hid (KY22.out.row r19.out (fun e => ne_b_g1 e.symm))
              have r25 := hid (KY22.out.row r20.out (fun e => ne_b_g2 e.symm))
              have r_a := hid (KY22.out.row AY17.out (fun e => ne_b_a e.symm))
              rw [hY22]
              refine hK.out _ _ ?_ (fun hHeld => ?_)
              · (try dsimp only); obtain ⟨s0, s1, s2⟩ := row3 r23.out; obtain ⟨u0, u1, u2, u3, u4, u5⟩ := MX1.out.at r24.out; obtain ⟨v0, v1', v2, v3, v4, v5⟩ := MX3.out.at r25.out; exact ⟨s0, s1, s2, u0, u1, u2, u3, u4, u5, v0, v1', v2, v3, v4, v5⟩
              clear hK hY22
              try simp only [List.getElem_toArray, List.getElem_cons_succ, List.getElem_cons_zero, Act.put, List.setIfInBounds_toArray, List.set_cons_zero, List.set_cons_succ]
              refine wpAnyH_done (by kernel_rfl) ?_ _
              exact ⟨(g7, g12, g1, c1, g2, c2), by rfl, BY22, hid yg7, hid yg12, r_a, AY22, hid fun e => ne_b_a e.symm⟩
            · go_simp
              obtain ⟨X26, hX26⟩ : ∃ X, X3.alloc (.cells #[.int .u64 0, .int .u32 0, .int .i64 0, .int .i64 0, .int .i64 0, .int .u64 0] 35) = X := ⟨_, rfl⟩
              have bX26 : Below X3.heap.size X3 X26 := by rw [← hX26]; exact ball _ _
              have r28 := hid (row_on r4.out bX26)
              have r29 := hid (row_on r5.out bX26)
              have r30 := hid (row_on EX3.out bX26)
              have BX26 := hid (btr BX3.out bX26)
              have zX26 : X26.heap[X3.heap.size]? = some (.cells #[.int .u64 0, .int .u32 0, .int .i64 0, .int .i64 0, .int .i64 0, .int .u64 0] 35 (0, 0)) := by rw [← hX26]; exact World.alloc_heap_new _ _
              have yg27 := BX3.out.size
              obtain ⟨g27, hg27⟩ : ∃ g, X3.heap.size = g := ⟨_, rfl⟩
              have ne_b_R : g27 ≠ R := by have := row_lt r4.out; omega
              have ne_b_g1 : g27 ≠ g1 := by have := row_lt r5.out; omega
              have ne_b_g2 : g27 ≠ g2 := by have := row_lt EX3.out; omega
              rw [hg27] at zX26 yg27
              have ZX26 := hid zX26
              rw [hX26, hg27]
              clear hX26 hg27 zX26 bX26
              refine hK.out _ _ ?_ (fun hHeld => ?_)
              · (try dsimp only); obtain ⟨s0, s1, s2⟩ := row3 r28.out; obtain ⟨u0, u1, u2, u3, u4, u5⟩ := MX1.out.at r29.out; obtain ⟨v0, v1', v2, v3, v4, v5⟩ := MX3.out.at r30.out; exact ⟨s0, s1, s2, u0, u1, u2, u3, u4, u5, v0, v1', v2, v3, v4, v5⟩
              clear hK K
              try simp only [List.getElem_toArray, List.getElem_cons_succ, List.getElem_cons_zero, Act.put, List.setIfInBounds_toArray, List.set_cons_zero, List.set_cons_succ]
              refine wpAnyH_ready (rs := [8]) (by kernel_rfl) (by simp) ?_
              refine (AllReadyH.cons (o := _) rfl (fun K hK => ?_) AllReadyH.nil)
              go_simp
              obtain ⟨X31, hX31⟩ : ∃ X, X26.alloc (.cells #[.int .u64 0, .int .u32 0, .int .i64 0, .int .i64 0, .int .i64 0, .int .u64 0] 35) = X := ⟨_, rfl⟩
              have bX31 : Below X26.heap.size X26 X31 := by rw [← hX31]; exact ball _ _
              have r33 := hid (row_on r28.out bX31)
              have r34 := hid (row_on r29.out bX31)
              have r35 := hid (row_on r30.out bX31)
              have r36 := hid (row_on ZX26.out bX31)
              have BX31 := hid (btr BX26.out bX31)
              have zX31 : X31.heap[X26.heap.size]? = some (.cells #[.int .u64 0, .int .u32 0, .int .i64 0, .int .i64 0, .int .i64 0, .int .u64 0] 35 (0, 0)) := by rw [← hX31]; exact World.alloc_heap_new _ _
              have yg32 := BX26.out.size
              obtain ⟨g32, hg32⟩ : ∃ g, X26.heap.size = g := ⟨_, rfl⟩
              have ne_a_R : g32 ≠ R := by have := row_lt r28.out; omega
              have ne_a_g1 : g32 ≠ g1 := by have := row_lt r29.out; omega
              have ne_a_g2 : g32 ≠ g2 := by have := row_lt r30.out; omega
              have ne_a_b : g32 ≠ g27 := by have := row_lt ZX26.out; omega
              rw [hg32] at zX31 yg32
              have ZX31 := hid zX31
              rw [hX31, hg32]
              clear hX31 hg32 zX31 bX31
              refine hK.out _ _ ?_ (fun hHeld => ?_)
              · (try dsimp only); obtain ⟨s0, s1, s2⟩ := row3 r33.out; obtain ⟨u0, u1, u2, u3, u4, u5⟩ := MX1.out.at r34.out; obtain ⟨v0, v1', v2, v3, v4, v5⟩ := MX3.out.at r35.out; exact ⟨s0, s1, s2, u0, u1, u2, u3, u4, u5, v0, v1', v2, v3, v4, v5⟩
              clear hK K
              try simp only [List.getElem_toArray, List.getElem_cons_succ, List.getElem_cons_zero, Act.put, List.setIfInBounds_toArray, List.set_cons_zero, List.set_cons_succ]
              refine wpAnyH_ready (rs := [10]) (by kernel_rfl) (by simp) ?_
              refine AllReadyH.cons (o := _) rfl (fun KK hK => ?_) AllReadyH.nil
              refine step_store_row (by rfl) 35 (.tmp 10) (.tmp 29) (by rfl) g32 #[.int .u64 x.id, .int .u32 x.mb, .int .i64 x.sd, .int .i64 x.ty, .int .i64 x.pr, .int .u64 x.qt] (by rfl) (by rfl) 35 _ ZX31.out AIx.out ASx.out AAx.out ?_
              obtain ⟨Y37, hY37⟩ : ∃ Y, X31.setRow g32 #[.int .u64 x.id, .int .u32 x.mb, .int .i64 x.sd, .int .i64 x.ty, .int .i64 x.pr, .int .u64 x.qt] = Y := ⟨_, rfl⟩
              have KY37 := hid (show Kp (fun j => j = g32) X31 Y37 from by rw [← hY37]; exact setRow_kp _ _ _)
              have AY37 := hid (show Y37.heap[g32]? = some (.cells #[.int .u64 x.id, .int .u32 x.mb, .int .i64 x.sd, .int .i64 x.ty, .int .i64 x.pr, .int .u64 x.qt] 35 (0, 0)) from by rw [← hY37]; exact setRow_heap X31 g32 _ _ 35 (0, 0) ZX31.out)
              have BY37 := hid (show Below wr.heap.size wr Y37 from by rw [← hY37]; exact setRow_below BX31.out yg32)
              have r38 := hid (KY37.out.row r33.out (fun e => ne_a_R e.symm))
              have r39 := hid (KY37.out.row r34.out (fun e => ne_a_g1 e.symm))
              have r40 := hid (KY37.out.row r35.out (fun e => ne_a_g2 e.symm))
              have r41 := hid (KY37.out.row r36.out (fun e => ne_a_b e.symm))
              rw [hY37]
              refine hK.out _ _ ?_ (fun hHeld => ?_)
              · (try dsimp only); obtain ⟨s0, s1, s2⟩ := row3 r38.out; obtain ⟨u0, u1, u2, u3, u4, u5⟩ := MX1.out.at r39.out; obtain ⟨v0, v1', v2, v3, v4, v5⟩ := MX3.out.at r40.out; exact ⟨s0, s1, s2, u0, u1, u2, u3, u4, u5, v0, v1', v2, v3, v4, v5⟩
              clear hK hY37
              try simp only [List.getElem_toArray, List.getElem_cons_succ, List.getElem_cons_zero, Act.put, List.setIfInBounds_toArray, List.set_cons_zero, List.set_cons_succ]
              refine wpAnyH_ready (rs := [11]) (by kernel_rfl) (by simp) ?_
              refine AllReadyH.cons (o := _) rfl (fun KK hK => ?_) AllReadyH.nil
              refine step_store_row (by rfl) 35 (.tmp 11) (.tmp 33) (by rfl) g27 #[.int .u64 y.id, .int .u32 y.mb, .int .i64 y.sd, .int .i64 y.ty, .int .i64 y.pr, .int .u64 y.qt] (by rfl) (by rfl) 35 _ r41.out AIy.out ASy.out AAy.out ?_
              obtain ⟨Y42, hY42⟩ : ∃ Y, Y37.setRow g27 #[.int .u64 y.id, .int .u32 y.mb, .int .i64 y.sd, .int .i64 y.ty, .int .i64 y.pr, .int .u64 y.qt] = Y := ⟨_, rfl⟩
              have KY42 := hid (show Kp (fun j => j = g27) Y37 Y42 from by rw [← hY42]; exact setRow_kp _ _ _)
              have AY42 := hid (show Y42.heap[g27]? = some (.cells #[.int .u64 y.id, .int .u32 y.mb, .int .i64 y.sd, .int .i64 y.ty, .int .i64 y.pr, .int .u64 y.qt] 35 (0, 0)) from by rw [← hY42]; exact setRow_heap Y37 g27 _ _ 35 (0, 0) r41.out)
              have BY42 := hid (show Below wr.heap.size wr Y42 from by rw [← hY42]; exact setRow_below BY37.out yg27)
              have r43 := hid (KY42.out.row r38.out (fun e => ne_b_R e.symm))
              have r44 := hid (KY42.out.row r39.out (fun e => ne_b_g1 e.symm))
              have r45 := hid (KY42.out.row r40.out (fun e => ne_b_g2 e.symm))
              have r_a := hid (KY42.out.row AY37.out (fun e => ne_a_b e))
              rw [hY42]
              refine hK.out _ _ ?_ (fun hHeld => ?_)
              · (try dsimp only); obtain ⟨s0, s1, s2⟩ := row3 r43.out; obtain ⟨u0, u1, u2, u3, u4, u5⟩ := MX1.out.at r44.out; obtain ⟨v0, v1', v2, v3, v4, v5⟩ := MX3.out.at r45.out; exact ⟨s0, s1, s2, u0, u1, u2, u3, u4, u5, v0, v1', v2, v3, v4, v5⟩
              clear hK hY42
              try simp only [List.getElem_toArray, List.getElem_cons_succ, List.getElem_cons_zero, Act.put, List.setIfInBounds_toArray, List.set_cons_zero, List.set_cons_succ]
              refine wpAnyH_done (by kernel_rfl) ?_ _
              exact ⟨(g32, g27, g1, c1, g2, c2), by rfl, BY42, hid yg32, hid yg27, r_a, AY42, hid ne_a_b⟩
          · go_simp
            obtain ⟨X46, hX46⟩ : ∃ X, X1.alloc (.cells #[.int .u64 0, .int .u32 0, .int .i64 0, .int .i64 0, .int .i64 0, .int .u64 0] 35) = X := ⟨_, rfl⟩
            have bX46 : Below X1.heap.size X1 X46 := by rw [← hX46]; exact ball _ _
            have r48 := hid (row_on r2.out bX46)
            have r49 := hid (row_on EX1.out bX46)
            have BX46 := hid (btr BX1.out bX46)
            have zX46 : X46.heap[X1.heap.size]? = some (.cells #[.int .u64 0, .int .u32 0, .int .i64 0, .int .i64 0, .int .i64 0, .int .u64 0] 35 (0, 0)) := by rw [← hX46]; exact World.alloc_heap_new _ _
            have yg47 := BX1.out.size
            obtain ⟨g47, hg47⟩ : ∃ g, X1.heap.size = g := ⟨_, rfl⟩
            have ne_a_R : g47 ≠ R := by have := row_lt r2.out; omega
            have ne_a_g1 : g47 ≠ g1 := by have := row_lt EX1.out; omega
            rw [hg47] at zX46 yg47
            have ZX46 := hid zX46
            rw [hX46, hg47]
            clear hX46 hg47 zX46 bX46
            refine hK.out _ _ ?_ (fun hHeld => ?_)
            · (try dsimp only); obtain ⟨s0, s1, s2⟩ := row3 r48.out; obtain ⟨u0, u1, u2, u3, u4, u5⟩ := MX1.out.at r49.out; exact ⟨s0, s1, s2, u0, u1, u2, u3, u4, u5⟩
            clear hK K
            try simp only [List.getElem_toArray, List.getElem_cons_succ, List.getElem_cons_zero, Act.put, List.setIfInBounds_toArray, List.set_cons_zero, List.set_cons_succ]
            refine wpAnyH_ready (rs := [5, 9]) (by kernel_rfl) (by simp) ?_
            refine (AllReadyH.cons (o := _) rfl (fun K hK => ?_) (AllReadyH.cons (o := _) rfl (fun K hK => ?_) AllReadyH.nil))
            · go_simp
              go_at_call 25
              with_reducible refine (C2.out X46 BX46.out).mono ?_
              rintro e X50 ⟨g2, c2, cu2, rfl, DX50, GX50, EX50, MX50⟩
              have r51 := hid (row_on r48.out DX50.out)
              have r52 := hid (row_on r49.out DX50.out)
              have r53 := hid (row_on ZX46.out DX50.out)
              have BX50 := hid (btr BX46.out DX50.out)
              have ne_a_g2 : g47 ≠ g2 := by have := row_lt ZX46.out; have := GX50.out; omega
              (try go_wp2_with fail)
              refine hK.out _ _ ?_ (fun hHeld => ?_)
              · (try dsimp only); obtain ⟨s0, s1, s2⟩ := row3 r51.out; obtain ⟨u0, u1, u2, u3, u4, u5⟩ := MX1.out.at r52.out; exact ⟨s0, s1, s2, u0, u1, u2, u3, u4, u5⟩
              clear hK K hHeld
              try simp only [List.getElem_toArray, List.getElem_cons_succ, List.getElem_cons_zero, Act.put, List.setIfInBounds_toArray, List.set_cons_zero, List.set_cons_succ]
              refine wpAnyH_more (S' := (fun U => U.cell? ⟨R, 0, none⟩ = some (.int .i64 r) ∧ U.cell? ⟨R, 1, none⟩ = some (.int .i64 m) ∧ U.cell? ⟨R, 2, none⟩ = some (.slice pL nL cL) ∧ U.cell? ⟨g1, 0, none⟩ = some (.int .u64 x.id) ∧ U.cell? ⟨g1, 1, none⟩ = some (.int .u32 x.mb) ∧ U.cell? ⟨g1, 2, none⟩ = some (.int .i64 x.sd) ∧ U.cell? ⟨g1, 3, none⟩ = some (.int .i64 x.ty) ∧ U.cell? ⟨g1, 4, none⟩ = some (.int .i64 x.pr) ∧ U.cell? ⟨g1, 5, none⟩ = some (.int .u64 x.qt) ∧ U.cell? ⟨g2, 0, none⟩ = some (.int .u64 y.id) ∧ U.cell? ⟨g2, 1, none⟩ = some (.int .u32 y.mb) ∧ U.cell? ⟨g2, 2, none⟩ = some (.int .i64 y.sd) ∧ U.cell? ⟨g2, 3, none⟩ = some (.int .i64 y.ty) ∧ U.cell? ⟨g2, 4, none⟩ = some (.int .i64 y.pr) ∧ U.cell? ⟨g2, 5, none⟩ = some (.int .u64 y.qt))) (fun U h => by obtain ⟨h0, h1, h2, h3, h4, h5, h6, h7, h8, h9, h10, h11, h12, h13, h14⟩ := h; exact ⟨h0, h1, h2, h3, h4, h5, h6, h7, h8⟩) _ _ _ _ ?_
              have hHeld : (fun U => U.cell? ⟨R, 0, none⟩ = some (.int .i64 r) ∧ U.cell? ⟨R, 1, none⟩ = some (.int .i64 m) ∧ U.cell? ⟨R, 2, none⟩ = some (.slice pL nL cL) ∧ U.cell? ⟨g1, 0, none⟩ = some (.int .u64 x.id) ∧ U.cell? ⟨g1, 1, none⟩ = some (.int .u32 x.mb) ∧ U.cell? ⟨g1, 2, none⟩ = some (.int .i64 x.sd) ∧ U.cell? ⟨g1, 3, none⟩ = some (.int .i64 x.ty) ∧ U.cell? ⟨g1, 4, none⟩ = some (.int .i64 x.pr) ∧ U.cell? ⟨g1, 5, none⟩ = some (.int .u64 x.qt) ∧ U.cell? ⟨g2, 0, none⟩ = some (.int .u64 y.id) ∧ U.cell? ⟨g2, 1, none⟩ = some (.int .u32 y.mb) ∧ U.cell? ⟨g2, 2, none⟩ = some (.int .i64 y.sd) ∧ U.cell? ⟨g2, 3, none⟩ = some (.int .i64 y.ty) ∧ U.cell? ⟨g2, 4, none⟩ = some (.int .i64 y.pr) ∧ U.cell? ⟨g2, 5, none⟩ = some (.int .u64 y.qt)) X50 := by dsimp only; obtain ⟨s0, s1, s2⟩ := row3 r51.out; obtain ⟨u0, u1, u2, u3, u4, u5⟩ := MX1.out.at r52.out; obtain ⟨v0, v1', v2, v3, v4, v5⟩ := MX50.out.at EX50.out; exact ⟨s0, s1, s2, u0, u1, u2, u3, u4, u5, v0, v1', v2, v3, v4, v5⟩
              dsimp only at hHeld
              refine' wpAnyH_take (i := 6) (oi := _) (v := _) rfl (by kernel_rfl) (by kernel_rfl) (by kernel_rfl) (fun _ _ _ h => h) (Or.inl ⟨by kernel_rfl, ?_⟩) (by assumption) ?_
              rotate_left
              · (intro w hSw; (try dsimp only at hSw); go_simp; try (with_reducible rfl))
              try simp only [List.getElem_toArray, List.getElem_cons_succ, List.getElem_cons_zero, Act.put, List.setIfInBounds_toArray, List.set_cons_zero, List.set_cons_succ]
              refine' wpAnyH_take (i := 7) (oi := _) (v := _) rfl (by kernel_rfl) (by kernel_rfl) (by kernel_rfl) (fun _ _ _ h => h) (Or.inl ⟨by kernel_rfl, ?_⟩) (by assumption) ?_
              rotate_left
              · (intro w hSw; (try dsimp only at hSw); go_simp; try (with_reducible rfl))
              try simp only [List.getElem_toArray, List.getElem_cons_succ, List.getElem_cons_zero, Act.put, List.setIfInBounds_toArray, List.set_cons_zero, List.set_cons_succ]
              refine wpAnyH_ready (rs := [9]) (by kernel_rfl) (by simp) ?_
              refine (AllReadyH.cons (o := _) rfl (fun K hK => ?_) AllReadyH.nil)
              go_simp
              obtain ⟨X54, hX54⟩ : ∃ X, X50.alloc (.cells #[.int .u64 0, .int .u32 0, .int .i64 0, .int .i64 0, .int .i64 0, .int .u64 0] 35) = X := ⟨_, rfl⟩
              have bX54 : Below X50.heap.size X50 X54 := by rw [← hX54]; exact ball _ _
              have r56 := hid (row_on r51.out bX54)
              have r57 := hid (row_on r52.out bX54)
              have r58 := hid (row_on r53.out bX54)
              have r59 := hid (row_on EX50.out bX54)
              have BX54 := hid (btr BX50.out bX54)
              have zX54 : X54.heap[X50.heap.size]? = some (.cells #[.int .u64 0, .int .u32 0, .int .i64 0, .int .i64 0, .int .i64 0, .int .u64 0] 35 (0, 0)) := by rw [← hX54]; exact World.alloc_heap_new _ _
              have yg55 := BX50.out.size
              obtain ⟨g55, hg55⟩ : ∃ g, X50.heap.size = g := ⟨_, rfl⟩
              have ne_b_R : g55 ≠ R := by have := row_lt r51.out; omega
              have ne_b_g1 : g55 ≠ g1 := by have := row_lt r52.out; omega
              have ne_b_a : g55 ≠ g47 := by have := row_lt r53.out; omega
              have ne_b_g2 : g55 ≠ g2 := by have := row_lt EX50.out; omega
              rw [hg55] at zX54 yg55
              have ZX54 := hid zX54
              rw [hX54, hg55]
              clear hX54 hg55 zX54 bX54
              refine hK.out _ _ ?_ (fun hHeld => ?_)
              · (try dsimp only); obtain ⟨s0, s1, s2⟩ := row3 r56.out; obtain ⟨u0, u1, u2, u3, u4, u5⟩ := MX1.out.at r57.out; obtain ⟨v0, v1', v2, v3, v4, v5⟩ := MX50.out.at r59.out; exact ⟨s0, s1, s2, u0, u1, u2, u3, u4, u5, v0, v1', v2, v3, v4, v5⟩
              clear hK K
              try simp only [List.getElem_toArray, List.getElem_cons_succ, List.getElem_cons_zero, Act.put, List.setIfInBounds_toArray, List.set_cons_zero, List.set_cons_succ]
              refine wpAnyH_ready (rs := [10]) (by kernel_rfl) (by simp) ?_
              refine AllReadyH.cons (o := _) rfl (fun KK hK => ?_) AllReadyH.nil
              refine step_store_row (by rfl) 35 (.tmp 10) (.tmp 29) (by rfl) g47 #[.int .u64 x.id, .int .u32 x.mb, .int .i64 x.sd, .int .i64 x.ty, .int .i64 x.pr, .int .u64 x.qt] (by rfl) (by rfl) 35 _ r58.out AIx.out ASx.out AAx.out ?_
              obtain ⟨Y60, hY60⟩ : ∃ Y, X54.setRow g47 #[.int .u64 x.id, .int .u32 x.mb, .int .i64 x.sd, .int .i64 x.ty, .int .i64 x.pr, .int .u64 x.qt] = Y := ⟨_, rfl⟩
              have KY60 := hid (show Kp (fun j => j = g47) X54 Y60 from by rw [← hY60]; exact setRow_kp _ _ _)
              have AY60 := hid (show Y60.heap[g47]? = some (.cells #[.int .u64 x.id, .int .u32 x.mb, .int .i64 x.sd, .int .i64 x.ty, .int .i64 x.pr, .int .u64 x.qt] 35 (0, 0)) from by rw [← hY60]; exact setRow_heap X54 g47 _ _ 35 (0, 0) r58.out)
              have BY60 := hid (show Below wr.heap.size wr Y60 from by rw [← hY60]; exact setRow_below BX54.out yg47)
              have r61 := hid (KY60.out.row r56.out (fun e => ne_a_R e.symm))
              have r62 := hid (KY60.out.row r57.out (fun e => ne_a_g1 e.symm))
              have r63 := hid (KY60.out.row r59.out (fun e => ne_a_g2 e.symm))
              have r64 := hid (KY60.out.row ZX54.out (fun e => ne_b_a e))
              rw [hY60]
              refine hK.out _ _ ?_ (fun hHeld => ?_)
              · (try dsimp only); obtain ⟨s0, s1, s2⟩ := row3 r61.out; obtain ⟨u0, u1, u2, u3, u4, u5⟩ := MX1.out.at r62.out; obtain ⟨v0, v1', v2, v3, v4, v5⟩ := MX50.out.at r63.out; exact ⟨s0, s1, s2, u0, u1, u2, u3, u4, u5, v0, v1', v2, v3, v4, v5⟩
              clear hK hY60
              try simp only [List.getElem_toArray, List.getElem_cons_succ, List.getElem_cons_zero, Act.put, List.setIfInBounds_toArray, List.set_cons_zero, List.set_cons_succ]
              refine wpAnyH_ready (rs := [11]) (by kernel_rfl) (by simp) ?_
              refine AllReadyH.cons (o := _) rfl (fun KK hK => ?_) AllReadyH.nil
              refine step_store_row (by rfl) 35 (.tmp 11) (.tmp 33) (by rfl) g55 #[.int .u64 y.id, .int .u32 y.mb, .int .i64 y.sd, .int .i64 y.ty, .int .i64 y.pr, .int .u64 y.qt] (by rfl) (by rfl) 35 _ r64.out AIy.out ASy.out AAy.out ?_
              obtain ⟨Y65, hY65⟩ : ∃ Y, Y60.setRow g55 #[.int .u64 y.id, .int .u32 y.mb, .int .i64 y.sd, .int .i64 y.ty, .int .i64 y.pr, .int .u64 y.qt] = Y := ⟨_, rfl⟩
              have KY65 := hid (show Kp (fun j => j = g55) Y60 Y65 from by rw [← hY65]; exact setRow_kp _ _ _)
              have AY65 := hid (show Y65.heap[g55]? = some (.cells #[.int .u64 y.id, .int .u32 y.mb, .int .i64 y.sd, .int .i64 y.ty, .int .i64 y.pr, .int .u64 y.qt] 35 (0, 0)) from by rw [← hY65]; exact setRow_heap Y60 g55 _ _ 35 (0, 0) r64.out)
              have BY65 := hid (show Below wr.heap.size wr Y65 from by rw [← hY65]; exact setRow_below BY60.out yg55)
              have r66 := hid (KY65.out.row r61.out (fun e => ne_b_R e.symm))
              have r67 := hid (KY65.out.row r62.out (fun e => ne_b_g1 e.symm))
              have r68 := hid (KY65.out.row r63.out (fun e => ne_b_g2 e.symm))
              have r_a := hid (KY65.out.row AY60.out (fun e => ne_b_a e.symm))
              rw [hY65]
              refine hK.out _ _ ?_ (fun hHeld => ?_)
              · (try dsimp only); obtain ⟨s0, s1, s2⟩ := row3 r66.out; obtain ⟨u0, u1, u2, u3, u4, u5⟩ := MX1.out.at r67.out; obtain ⟨v0, v1', v2, v3, v4, v5⟩ := MX50.out.at r68.out; exact ⟨s0, s1, s2, u0, u1, u2, u3, u4, u5, v0, v1', v2, v3, v4, v5⟩
              clear hK hY65
              try simp only [List.getElem_toArray, List.getElem_cons_succ, List.getElem_cons_zero, Act.put, List.setIfInBounds_toArray, List.set_cons_zero, List.set_cons_succ]
              refine wpAnyH_done (by kernel_rfl) ?_ _
              exact ⟨(g47, g55, g1, c1, g2, c2), by rfl, BY65, hid yg47, hid yg55, r_a, AY65, hid fun e => ne_b_a e.symm⟩
            · go_simp
              obtain ⟨X69, hX69⟩ : ∃ X, X46.alloc (.cells #[.int .u64 0, .int .u32 0, .int .i64 0, .int .i64 0, .int .i64 0, .int .u64 0] 35) = X := ⟨_, rfl⟩
              have bX69 : Below X46.heap.size X46 X69 := by rw [← hX69]; exact ball _ _
              have r71 := hid (row_on r48.out bX69)
              have r72 := hid (row_on r49.out bX69)
              have r73 := hid (row_on ZX46.out bX69)
              have BX69 := hid (btr BX46.out bX69)
              have zX69 : X69.heap[X46.heap.size]? = some (.cells #[.int .u64 0, .int .u32 0, .int .i64 0, .int .i64 0, .int .i64 0, .int .u64 0] 35 (0, 0)) := by rw [← hX69]; exact World.alloc_heap_new _ _
              have yg70 := BX46.out.size
              obtain ⟨g70, hg70⟩ : ∃ g, X46.heap.size = g := ⟨_, rfl⟩
              have ne_b_R : g70 ≠ R := by have := row_lt r48.out; omega
              have ne_b_g1 : g70 ≠ g1 := by have := row_lt r49.out; omega
              have ne_b_a : g70 ≠ g47 := by have := row_lt ZX46.out; omega
              rw [hg70] at zX69 yg70
              have ZX69 := hid zX69
              rw [hX69, hg70]
              clear hX69 hg70 zX69 bX69
              refine hK.out _ _ ?_ (fun hHeld => ?_)
              · (try dsimp only); obtain ⟨s0, s1, s2⟩ := row3 r71.out; obtain ⟨u0, u1, u2, u3, u4, u5⟩ := MX1.out.at r72.out; exact ⟨s0, s1, s2, u0, u1, u2, u3, u4, u5⟩
              clear hK K
              try simp only [List.getElem_toArray, List.getElem_cons_succ, List.getElem_cons_zero, Act.put, List.setIfInBounds_toArray, List.set_cons_zero, List.set_cons_succ]
              refine wpAnyH_ready (rs := [5]) (by kernel_rfl) (by simp) ?_
              refine (AllReadyH.cons (o := _) rfl (fun K hK => ?_) AllReadyH.nil)
              go_simp
              go_at_call 25
              with_reducible refine (C2.out X69 BX69.out).mono ?_
              rintro e X74 ⟨g2, c2, cu2, rfl, DX74, GX74, EX74, MX74⟩
              have r75 := hid (row_on r71.out DX74.out)
              have r76 := hid (row_on r72.out DX74.out)
              have r77 := hid (row_on r73.out DX74.out)
              have r78 := hid (row_on ZX69.out DX74.out)
              have BX74 := hid (btr BX69.out DX74.out)
              have ne_a_g2 : g47 ≠ g2 := by have := row_lt r73.out; have := GX74.out; omega
              have ne_b_g2 : g70 ≠ g2 := by have := row_lt ZX69.out; have := GX74.out; omega
              (try go_wp2_with fail)
              refine hK.out _ _ ?_ (fun hHeld => ?_)
              · (try dsimp only); obtain ⟨s0, s1, s2⟩ := row3 r75.out; obtain ⟨u0, u1, u2, u3, u4, u5⟩ := MX1.out.at r76.out; exact ⟨s0, s1, s2, u0, u1, u2, u3, u4, u5⟩
              clear hK K hHeld
              try simp only [List.getElem_toArray, List.getElem_cons_succ, List.getElem_cons_zero, Act.put, List.setIfInBounds_toArray, List.set_cons_zero, List.set_cons_succ]
              refine wpAnyH_more (S' := (fun U => U.cell? ⟨R, 0, none⟩ = some (.int .i64 r) ∧ U.cell? ⟨R, 1, none⟩ = some (.int .i64 m) ∧ U.cell? ⟨R, 2, none⟩ = some (.slice pL nL cL) ∧ U.cell? ⟨g1, 0, none⟩ = some (.int .u64 x.id) ∧ U.cell? ⟨g1, 1, none⟩ = some (.int .u32 x.mb) ∧ U.cell? ⟨g1, 2, none⟩ = some (.int .i64 x.sd) ∧ U.cell? ⟨g1, 3, none⟩ = some (.int .i64 x.ty) ∧ U.cell? ⟨g1, 4, none⟩ = some (.int .i64 x.pr) ∧ U.cell? ⟨g1, 5, none⟩ = some (.int .u64 x.qt) ∧ U.cell? ⟨g2, 0, none⟩ = some (.int .u64 y.id) ∧ U.cell? ⟨g2, 1, none⟩ = some (.int .u32 y.mb) ∧ U.cell? ⟨g2, 2, none⟩ = some (.int .i64 y.sd) ∧ U.cell? ⟨g2, 3, none⟩ = some (.int .i64 y.ty) ∧ U.cell? ⟨g2, 4, none⟩ = some (.int .i64 y.pr) ∧ U.cell? ⟨g2, 5, none⟩ = some (.int .u64 y.qt))) (fun U h => by obtain ⟨h0, h1, h2, h3, h4, h5, h6, h7, h8, h9, h10, h11, h12, h13, h14⟩ := h; exact ⟨h0, h1, h2, h3, h4, h5, h6, h7, h8⟩) _ _ _ _ ?_
              have hHeld : (fun U => U.cell? ⟨R, 0, none⟩ = some (.int .i64 r) ∧ U.cell? ⟨R, 1, none⟩ = some (.int .i64 m) ∧ U.cell? ⟨R, 2, none⟩ = some (.slice pL nL cL) ∧ U.cell? ⟨g1, 0, none⟩ = some (.int .u64 x.id) ∧ U.cell? ⟨g1, 1, none⟩ = some (.int .u32 x.mb) ∧ U.cell? ⟨g1, 2, none⟩ = some (.int .i64 x.sd) ∧ U.cell? ⟨g1, 3, none⟩ = some (.int .i64 x.ty) ∧ U.cell? ⟨g1, 4, none⟩ = some (.int .i64 x.pr) ∧ U.cell? ⟨g1, 5, none⟩ = some (.int .u64 x.qt) ∧ U.cell? ⟨g2, 0, none⟩ = some (.int .u64 y.id) ∧ U.cell? ⟨g2, 1, none⟩ = some (.int .u32 y.mb) ∧ U.cell? ⟨g2, 2, none⟩ = some (.int .i64 y.sd) ∧ U.cell? ⟨g2, 3, none⟩ = some (.int .i64 y.ty) ∧ U.cell? ⟨g2, 4, none⟩ = some (.int .i64 y.pr) ∧ U.cell? ⟨g2, 5, none⟩ = some (.int .u64 y.qt)) X74 := by dsimp only; obtain ⟨s0, s1, s2⟩ := row3 r75.out; obtain ⟨u0, u1, u2, u3, u4, u5⟩ := MX1.out.at r76.out; obtain ⟨v0, v1', v2, v3, v4, v5⟩ := MX74.out.at EX74.out; exact ⟨s0, s1, s2, u0, u1, u2, u3, u4, u5, v0, v1', v2, v3, v4, v5⟩
              dsimp only at hHeld
              refine' wpAnyH_take (i := 6) (oi := _) (v := _) rfl (by kernel_rfl) (by kernel_rfl) (by kernel_rfl) (fun _ _ _ h => h) (Or.inl ⟨by kernel_rfl, ?_⟩) (by assumption) ?_
              rotate_left
              · (intro w hSw; (try dsimp only at hSw); go_simp; try (with_reducible rfl))
              try simp only [List.getElem_toArray, List.getElem_cons_succ, List.getElem_cons_zero, Act.put, List.setIfInBounds_toArray, List.set_cons_zero, List.set_cons_succ]
              refine' wpAnyH_take (i := 7) (oi := _) (v := _) rfl (by kernel_rfl) (by kernel_rfl) (by kernel_rfl) (fun _ _ _ h => h) (Or.inl ⟨by kernel_rfl, ?_⟩) (by assumption) ?_
              rotate_left
              · (intro w hSw; (try dsimp only at hSw); go_simp; try (with_reducible rfl))
              try simp only [List.getElem_toArray, List.getElem_cons_succ, List.getElem_cons_zero, Act.put, List.setIfInBounds_toArray, List.set_cons_zero, List.set_cons_succ]
              refine wpAnyH_ready (rs := [10]) (by kernel_rfl) (by simp) ?_
              refine AllReadyH.cons (o := _) rfl (fun KK hK => ?_) AllReadyH.nil
              refine step_store_row (by rfl) 35 (.tmp 10) (.tmp 29) (by rfl) g47 #[.int .u64 x.id, .int .u32 x.mb, .int .i64 x.sd, .int .i64 x.ty, .int .i64 x.pr, .int .u64 x.qt] (by rfl) (by rfl) 35 _ r77.out AIx.out ASx.out AAx.out ?_
              obtain ⟨Y79, hY79⟩ : ∃ Y, X74.setRow g47 #[.int .u64 x.id, .int .u32 x.mb, .int .i64 x.sd, .int .i64 x.ty, .int .i64 x.pr, .int .u64 x.qt] = Y := ⟨_, rfl⟩
              have KY79 := hid (show Kp (fun j => j = g47) X74 Y79 from by rw [← hY79]; exact setRow_kp _ _ _)
              have AY79 := hid (show Y79.heap[g47]? = some (.cells #[.int .u64 x.id, .int .u32 x.mb, .int .i64 x.sd, .int .i64 x.ty, .int .i64 x.pr, .int .u64 x.qt] 35 (0, 0)) from by rw [← hY79]; exact setRow_heap X74 g47 _ _ 35 (0, 0) r77.out)
              have BY79 := hid (show Below wr.heap.size wr Y79 from by rw [← hY79]; exact setRow_below BX74.out yg47)
              have r80 := hid (KY79.out.row r75.out (fun e => ne_a_R e.symm))
              have r81 := hid (KY79.out.row r76.out (fun e => ne_a_g1 e.symm))
              have r82 := hid (KY79.out.row EX74.out (fun e => ne_a_g2 e.symm))
              have r83 := hid (KY79.out.row r78.out (fun e => ne_b_a e))
              rw [hY79]
              refine hK.out _ _ ?_ (fun hHeld => ?_)
              · (try dsimp only); obtain ⟨s0, s1, s2⟩ := row3 r80.out; obtain ⟨u0, u1, u2, u3, u4, u5⟩ := MX1.out.at r81.out; obtain ⟨v0, v1', v2, v3, v4, v5⟩ := MX74.out.at r82.out; exact ⟨s0, s1, s2, u0, u1, u2, u3, u4, u5, v0, v1', v2, v3, v4, v5⟩
              clear hK hY79
              try simp only [List.getElem_toArray, List.getElem_cons_succ, List.getElem_cons_zero, Act.put, List.setIfInBounds_toArray, List.set_cons_zero, List.set_cons_succ]
              refine wpAnyH_ready (rs := [11]) (by kernel_rfl) (by simp) ?_
              refine AllReadyH.cons (o := _) rfl (fun KK hK => ?_) AllReadyH.nil
              refine step_store_row (by rfl) 35 (.tmp 11) (.tmp 33) (by rfl) g70 #[.int .u64 y.id, .int .u32 y.mb, .int .i64 y.sd, .int .i64 y.ty, .int .i64 y.pr, .int .u64 y.qt] (by rfl) (by rfl) 35 _ r83.out AIy.out ASy.out AAy.out ?_
              obtain ⟨Y84, hY84⟩ : ∃ Y, Y79.setRow g70 #[.int .u64 y.id, .int .u32 y.mb, .int .i64 y.sd, .int .i64 y.ty, .int .i64 y.pr, .int .u64 y.qt] = Y := ⟨_, rfl⟩
              have KY84 := hid (show Kp (fun j => j = g70) Y79 Y84 from by rw [← hY84]; exact setRow_kp _ _ _)
              have AY84 := hid (show Y84.heap[g70]? = some (.cells #[.int .u64 y.id, .int .u32 y.mb, .int .i64 y.sd, .int .i64 y.ty, .int .i64 y.pr, .int .u64 y.qt] 35 (0, 0)) from by rw [← hY84]; exact setRow_heap Y79 g70 _ _ 35 (0, 0) r83.out)
              have BY84 := hid (show Below wr.heap.size wr Y84 from by rw [← hY84]; exact setRow_below BY79.out yg70)
              have r85 := hid (KY84.out.row r80.out (fun e => ne_b_R e.symm))
              have r86 := hid (KY84.out.row r81.out (fun e => ne_b_g1 e.symm))
              have r87 := hid (KY84.out.row r82.out (fun e => ne_b_g2 e.symm))
              have r_a := hid (KY84.out.row AY79.out (fun e => ne_b_a e.symm))
              rw [hY84]
              refine hK.out _ _ ?_ (fun hHeld => ?_)
              · (try dsimp only); obtain ⟨s0, s1, s2⟩ := row3 r85.out; obtain ⟨u0, u1, u2, u3, u4, u5⟩ := MX1.out.at r86.out; obtain ⟨v0, v1', v2, v3, v4, v5⟩ := MX74.out.at r87.out; exact ⟨s0, s1, s2, u0, u1, u2, u3, u4, u5, v0, v1', v2, v3, v4, v5⟩
              clear hK hY84
              try simp only [List.getElem_toArray, List.getElem_cons_succ, List.getElem_cons_zero, Act.put, List.setIfInBounds_toArray, List.set_cons_zero, List.set_cons_succ]
              refine wpAnyH_done (by kernel_rfl) ?_ _
              exact ⟨(g47, g70, g1, c1, g2, c2), by rfl, BY84, hid yg47, hid yg70, r_a, AY84, hid fun e => ne_b_a e.symm⟩
          · go_simp
            obtain ⟨X88, hX88⟩ : ∃ X, X1.alloc (.cells #[.int .u64 0, .int .u32 0, .int .i64 0, .int .i64 0, .int .i64 0, .int .u64 0] 35) = X := ⟨_, rfl⟩
            have bX88 : Below X1.heap.size X1 X88 := by rw [← hX88]; exact ball _ _
            have r90 := hid (row_on r2.out bX88)
            have r91 := hid (row_on EX1.out bX88)
            have BX88 := hid (btr BX1.out bX88)
            have zX88 : X88.heap[X1.heap.size]? = some (.cells #[.int .u64 0, .int .u32 0, .int .i64 0, .int .i64 0, .int .i64 0, .int .u64 0] 35 (0, 0)) := by rw [← hX88]; exact World.alloc_heap_new _ _
            have yg89 := BX1.out.size
            obtain ⟨g89, hg89⟩ : ∃ g, X1.heap.size = g := ⟨_, rfl⟩
            have ne_b_R : g89 ≠ R := by have := row_lt r2.out; omega
            have ne_b_g1 : g89 ≠ g1 := by have := row_lt EX1.out; omega
            rw [hg89] at zX88 yg89
            have ZX88 := hid zX88
            rw [hX88, hg89]
            clear hX88 hg89 zX88 bX88
            refine hK.out _ _ ?_ (fun hHeld => ?_)
            · (try dsimp only); obtain ⟨s0, s1, s2⟩ := row3 r90.out; obtain ⟨u0, u1, u2, u3, u4, u5⟩ := MX1.out.at r91.out; exact ⟨s0, s1, s2, u0, u1, u2, u3, u4, u5⟩
            clear hK K
            try simp only [List.getElem_toArray, List.getElem_cons_succ, List.getElem_cons_zero, Act.put, List.setIfInBounds_toArray, List.set_cons_zero, List.set_cons_succ]
            refine wpAnyH_ready (rs := [5, 8]) (by kernel_rfl) (by simp) ?_
            refine (AllReadyH.cons (o := _) rfl (fun K hK => ?_) (AllReadyH.cons (o := _) rfl (fun K hK => ?_) AllReadyH.nil))
            · go_simp
              go_at_call 25
              with_reducible refine (C2.out X88 BX88.out).mono ?_
              rintro e X92 ⟨g2, c2, cu2, rfl, DX92, GX92, EX92, MX92⟩
              have r93 := hid (row_on r90.out DX92.out)
              have r94 := hid (row_on r91.out DX92.out)
              have r95 := hid (row_on ZX88.out DX92.out)
              have BX92 := hid (btr BX88.out DX92.out)
              have ne_b_g2 : g89 ≠ g2 := by have := row_lt ZX88.out; have := GX92.out; omega
              (try go_wp2_with fail)
              refine hK.out _ _ ?_ (fun hHeld => ?_)
              · (try dsimp only); obtain ⟨s0, s1, s2⟩ := row3 r93.out; obtain ⟨u0, u1, u2, u3, u4, u5⟩ := MX1.out.at r94.out; exact ⟨s0, s1, s2, u0, u1, u2, u3, u4, u5⟩
              clear hK K hHeld
              try simp only [List.getElem_toArray, List.getElem_cons_succ, List.getElem_cons_zero, Act.put, List.setIfInBounds_toArray, List.set_cons_zero, List.set_cons_succ]
              refine wpAnyH_more (S' := (fun U => U.cell? ⟨R, 0, none⟩ = some (.int .i64 r) ∧ U.cell? ⟨R, 1, none⟩ = some (.int .i64 m) ∧ U.cell? ⟨R, 2, none⟩ = some (.slice pL nL cL) ∧ U.cell? ⟨g1, 0, none⟩ = some (.int .u64 x.id) ∧ U.cell? ⟨g1, 1, none⟩ = some (.int .u32 x.mb) ∧ U.cell? ⟨g1, 2, none⟩ = some (.int .i64 x.sd) ∧ U.cell? ⟨g1, 3, none⟩ = some (.int .i64 x.ty) ∧ U.cell? ⟨g1, 4, none⟩ = some (.int .i64 x.pr) ∧ U.cell? ⟨g1, 5, none⟩ = some (.int .u64 x.qt) ∧ U.cell? ⟨g2, 0, none⟩ = some (.int .u64 y.id) ∧ U.cell? ⟨g2, 1, none⟩ = some (.int .u32 y.mb) ∧ U.cell? ⟨g2, 2, none⟩ = some (.int .i64 y.sd) ∧ U.cell? ⟨g2, 3, none⟩ = some (.int .i64 y.ty) ∧ U.cell? ⟨g2, 4, none⟩ = some (.int .i64 y.pr) ∧ U.cell? ⟨g2, 5, none⟩ = some (.int .u64 y.qt))) (fun U h => by obtain ⟨h0, h1, h2, h3, h4, h5, h6, h7, h8, h9, h10, h11, h12, h13, h14⟩ := h; exact ⟨h0, h1, h2, h3, h4, h5, h6, h7, h8⟩) _ _ _ _ ?_
              have hHeld : (fun U => U.cell? ⟨R, 0, none⟩ = some (.int .i64 r) ∧ U.cell? ⟨R, 1, none⟩ = some (.int .i64 m) ∧ U.cell? ⟨R, 2, none⟩ = some (.slice pL nL cL) ∧ U.cell? ⟨g1, 0, none⟩ = some (.int .u64 x.id) ∧ U.cell? ⟨g1, 1, none⟩ = some (.int .u32 x.mb) ∧ U.cell? ⟨g1, 2, none⟩ = some (.int .i64 x.sd) ∧ U.cell? ⟨g1, 3, none⟩ = some (.int .i64 x.ty) ∧ U.cell? ⟨g1, 4, none⟩ = some (.int .i64 x.pr) ∧ U.cell? ⟨g1, 5, none⟩ = some (.int .u64 x.qt) ∧ U.cell? ⟨g2, 0, none⟩ = some (.int .u64 y.id) ∧ U.cell? ⟨g2, 1, none⟩ = some (.int .u32 y.mb) ∧ U.cell? ⟨g2, 2, none⟩ = some (.int .i64 y.sd) ∧ U.cell? ⟨g2, 3, none⟩ = some (.int .i64 y.ty) ∧ U.cell? ⟨g2, 4, none⟩ = some (.int .i64 y.pr) ∧ U.cell? ⟨g2, 5, none⟩ = some (.int .u64 y.qt)) X92 := by dsimp only; obtain ⟨s0, s1, s2⟩ := row3 r93.out; obtain ⟨u0, u1, u2, u3, u4, u5⟩ := MX1.out.at r94.out; obtain ⟨v0, v1', v2, v3, v4, v5⟩ := MX92.out.at EX92.out; exact ⟨s0, s1, s2, u0, u1, u2, u3, u4, u5, v0, v1', v2, v3, v4, v5⟩
              dsimp only at hHeld
              refine' wpAnyH_take (i := 6) (oi := _) (v := _) rfl (by kernel_rfl) (by kernel_rfl) (by kernel_rfl) (fun _ _ _ h => h) (Or.inl ⟨by kernel_rfl, ?_⟩) (by assumption) ?_
              rotate_left
              · (intro w hSw; (try dsimp only at hSw); go_simp; try (with_reducible rfl))
              try simp only [List.getElem_toArray, List.getElem_cons_succ, List.getElem_cons_zero, Act.put, List.setIfInBounds_toArray, List.set_cons_zero, List.set_cons_succ]
              refine' wpAnyH_take (i := 7) (oi := _) (v := _) rfl (by kernel_rfl) (by kernel_rfl) (by kernel_rfl) (fun _ _ _ h => h) (Or.inl ⟨by kernel_rfl, ?_⟩) (by assumption) ?_
              rotate_left
              · (intro w hSw; (try dsimp only at hSw); go_simp; try (with_reducible rfl))
              try simp only [List.getElem_toArray, List.getElem_cons_succ, List.getElem_cons_zero, Act.put, List.setIfInBounds_toArray, List.set_cons_zero, List.set_cons_succ]
              refine wpAnyH_ready (rs := [8]) (by kernel_rfl) (by simp) ?_
              refine (AllReadyH.cons (o := _) rfl (fun K hK => ?_) AllReadyH.nil)
              go_simp
              obtain ⟨X96, hX96⟩ : ∃ X, X92.alloc (.cells #[.int .u64 0, .int .u32 0, .int .i64 0, .int .i64 0, .int .i64 0, .int .u64 0] 35) = X := ⟨_, rfl⟩
              have bX96 : Below X92.heap.size X92 X96 := by rw [← hX96]; exact ball _ _
              have r98 := hid (row_on r93.out bX96)
              have r99 := hid (row_on r94.out bX96)
              have r100 := hid (row_on r95.out bX96)
              have r101 := hid (row_on EX92.out bX96)
              have BX96 := hid (btr BX92.out bX96)
              have zX96 : X96.heap[X92.heap.size]? = some (.cells #[.int .u64 0, .int .u32 0, .int .i64 0, .int .i64 0, .int .i64 0, .int .u64 0] 35 (0, 0)) := by rw [← hX96]; exact World.alloc_heap_new _ _
              have yg97 := BX92.out.size
              obtain ⟨g97, hg97⟩ : ∃ g, X92.heap.size = g := ⟨_, rfl⟩
              have ne_a_R : g97 ≠ R := by have := row_lt r93.out; omega
              have ne_a_g1 : g97 ≠ g1 := by have := row_lt r94.out; omega
              have ne_a_b : g97 ≠ g89 := by have := row_lt r95.out; omega
              have ne_a_g2 : g97 ≠ g2 := by have := row_lt EX92.out; omega
              rw [hg97] at zX96 yg97
              have ZX96 := hid zX96
              rw [hX96, hg97]
              clear hX96 hg97 zX96 bX96
              refine hK.out _ _ ?_ (fun hHeld => ?_)
              · (try dsimp only); obtain ⟨s0, s1, s2⟩ := row3 r98.out; obtain ⟨u0, u1, u2, u3, u4, u5⟩ := MX1.out.at r99.out; obtain ⟨v0, v1', v2, v3, v4, v5⟩ := MX92.out.at r101.out; exact ⟨s0, s1, s2, u0, u1, u2, u3, u4, u5, v0, v1', v2, v3, v4, v5⟩
              clear hK K
              try simp only [List.getElem_toArray, List.getElem_cons_succ, List.getElem_cons_zero, Act.put, List.setIfInBounds_toArray, List.set_cons_zero, List.set_cons_succ]
              refine wpAnyH_ready (rs := [10]) (by kernel_rfl) (by simp) ?_
              refine AllReadyH.cons (o := _) rfl (fun KK hK => ?_) AllReadyH.nil
              refine step_store_row (by rfl) 35 (.tmp 10) (.tmp 29) (by rfl) g97 #[.int .u64 x.id, .int .u32 x.mb, .int .i64 x.sd, .int .i64 x.ty, .int .i64 x.pr, .int .u64 x.qt] (by rfl) (by rfl) 35 _ ZX96.out AIx.out ASx.out AAx.out ?_
              obtain ⟨Y102, hY102⟩ : ∃ Y, X96.setRow g97 #[.int .u64 x.id, .int .u32 x.mb, .int .i64 x.sd, .int .i64 x.ty, .int .i64 x.pr, .int .u64 x.qt] = Y := ⟨_, rfl⟩
              have KY102 := hid (show Kp (fun j => j = g97) X96 Y102 from by rw [← hY102]; exact setRow_kp _ _ _)
              have AY102 := hid (show Y102.heap[g97]? = some (.cells #[.int .u64 x.id, .int .u32 x.mb, .int .i64 x.sd, .int .i64 x.ty, .int .i64 x.pr, .int .u64 x.qt] 35 (0, 0)) from by rw [← hY102]; exact setRow_heap X96 g97 _ _ 35 (0, 0) ZX96.out)
              have BY102 := hid (show Below wr.heap.size wr Y102 from by rw [← hY102]; exact setRow_below BX96.out yg97)
              have r103 := hid (KY102.out.row r98.out (fun e => ne_a_R e.symm))
              have r104 := hid (KY102.out.row r99.out (fun e => ne_a_g1 e.symm))
              have r105 := hid (KY102.out.row r101.out (fun e => ne_a_g2 e.symm))
              have r106 := hid (KY102.out.row r100.out (fun e => ne_a_b e.symm))
              rw [hY102]
              refine hK.out _ _ ?_ (fun hHeld => ?_)
              · (try dsimp only); obtain ⟨s0, s1, s2⟩ := row3 r103.out; obtain ⟨u0, u1, u2, u3, u4, u5⟩ := MX1.out.at r104.out; obtain ⟨v0, v1', v2, v3, v4, v5⟩ := MX92.out.at r105.out; exact ⟨s0, s1, s2, u0, u1, u2, u3, u4, u5, v0, v1', v2, v3, v4, v5⟩
              clear hK hY102
              try simp only [List.getElem_toArray, List.getElem_cons_succ, List.getElem_cons_zero, Act.put, List.setIfInBounds_toArray, List.set_cons_zero, List.set_cons_succ]
              refine wpAnyH_ready (rs := [11]) (by kernel_rfl) (by simp) ?_
              refine AllReadyH.cons (o := _) rfl (fun KK hK => ?_) AllReadyH.nil
              refine step_store_row (by rfl) 35 (.tmp 11) (.tmp 33) (by rfl) g89 #[.int .u64 y.id, .int .u32 y.mb, .int .i64 y.sd, .int .i64 y.ty, .int .i64 y.pr, .int .u64 y.qt] (by rfl) (by rfl) 35 _ r106.out AIy.out ASy.out AAy.out ?_
              obtain ⟨Y107, hY107⟩ : ∃ Y, Y102.setRow g89 #[.int .u64 y.id, .int .u32 y.mb, .int .i64 y.sd, .int .i64 y.ty, .int .i64 y.pr, .int .u64 y.qt] = Y := ⟨_, rfl⟩
              have KY107 := hid (show Kp (fun j => j = g89) Y102 Y107 from by rw [← hY107]; exact setRow_kp _ _ _)
              have AY107 := hid (show Y107.heap[g89]? = some (.cells #[.int .u64 y.id, .int .u32 y.mb, .int .i64 y.sd, .int .i64 y.ty, .int .i64 y.pr, .int .u64 y.qt] 35 (0, 0)) from by rw [← hY107]; exact setRow_heap Y102 g89 _ _ 35 (0, 0) r106.out)
              have BY107 := hid (show Below wr.heap.size wr Y107 from by rw [← hY107]; exact setRow_below BY102.out yg89)
              have r108 := hid (KY107.out.row r103.out (fun e => ne_b_R e.symm))
              have r109 := hid (KY107.out.row r104.out (fun e => ne_b_g1 e.symm))
              have r110 := hid (KY107.out.row r105.out (fun e => ne_b_g2 e.symm))
              have r_a := hid (KY107.out.row AY102.out (fun e => ne_a_b e))
              rw [hY107]
              refine hK.out _ _ ?_ (fun hHeld => ?_)
              · (try dsimp only); obtain ⟨s0, s1, s2⟩ := row3 r108.out; obtain ⟨u0, u1, u2, u3, u4, u5⟩ := MX1.out.at r109.out; obtain ⟨v0, v1', v2, v3, v4, v5⟩ := MX92.out.at r110.out; exact ⟨s0, s1, s2, u0, u1, u2, u3, u4, u5, v0, v1', v2, v3, v4, v5⟩
              clear hK hY107
              try simp only [List.getElem_toArray, List.getElem_cons_succ, List.getElem_cons_zero, Act.put, List.setIfInBounds_toArray, List.set_cons_zero, List.set_cons_succ]
              refine wpAnyH_done (by kernel_rfl) ?_ _
              exact ⟨(g97, g89, g1, c1, g2, c2), by rfl, BY107, hid yg97, hid yg89, r_a, AY107, hid ne_a_b⟩
            · go_simp
              obtain ⟨X111, hX111⟩ : ∃ X, X88.alloc (.cells #[.int .u64 0, .int .u32 0, .int .i64 0, .int .i64 0, .int .i64 0, .int .u64 0] 35) = X := ⟨_, rfl⟩
              have bX111 : Below X88.heap.size X88 X111 := by rw [← hX111]; exact ball _ _
              have r113 := hid (row_on r90.out bX111)
              have r114 := hid (row_on r91.out bX111)
              have r115 := hid (row_on ZX88.out bX111)
              have BX111 := hid (btr BX88.out bX111)
              have zX111 : X111.heap[X88.heap.size]? = some (.cells #[.int .u64 0, .int .u32 0, .int .i64 0, .int .i64 0, .int .i64 0, .int .u64 0] 35 (0, 0)) := by rw [← hX111]; exact World.alloc_heap_new _ _
              have yg112 := BX88.out.size
              obtain ⟨g112, hg112⟩ : ∃ g, X88.heap.size = g := ⟨_, rfl⟩
              have ne_a_R : g112 ≠ R := by have := row_lt r90.out; omega
              have ne_a_g1 : g112 ≠ g1 := by have := row_lt r91.out; omega
              have ne_a_b : g112 ≠ g89 := by have := row_lt ZX88.out; omega
              rw [hg112] at zX111 yg112
              have ZX111 := hid zX111
              rw [hX111, hg112]
              clear hX111 hg112 zX111 bX111
              refine hK.out _ _ ?_ (fun hHeld => ?_)
              · (try dsimp only); obtain ⟨s0, s1, s2⟩ := row3 r113.out; obtain ⟨u0, u1, u2, u3, u4, u5⟩ := MX1.out.at r114.out; exact ⟨s0, s1, s2, u0, u1, u2, u3, u4, u5⟩
              clear hK K
              try simp only [List.getElem_toArray, List.getElem_cons_succ, List.getElem_cons_zero, Act.put, List.setIfInBounds_toArray, List.set_cons_zero, List.set_cons_succ]
              refine wpAnyH_ready (rs := [5]) (by kernel_rfl) (by simp) ?_
              refine (AllReadyH.cons (o := _) rfl (fun K hK => ?_) AllReadyH.nil)
              go_simp
              go_at_call 25
              with_reducible refine (C2.out X111 BX111.out).mono ?_
              rintro e X116 ⟨g2, c2, cu2, rfl, DX116, GX116, EX116, MX116⟩
              have r117 := hid (row_on r113.out DX116.out)
              have r118 := hid (row_on r114.out DX116.out)
              have r119 := hid (row_on r115.out DX116.out)
              have r120 := hid (row_on ZX111.out DX116.out)
              have BX116 := hid (btr BX111.out DX116.out)
              have ne_b_g2 : g89 ≠ g2 := by have := row_lt r115.out; have := GX116.out; omega
              have ne_a_g2 : g112 ≠ g2 := by have := row_lt ZX111.out; have := GX116.out; omega
              (try go_wp2_with fail)
              refine hK.out _ _ ?_ (fun hHeld => ?_)
              · (try dsimp only); obtain ⟨s0, s1, s2⟩ := row3 r117.out; obtain ⟨u0, u1, u2, u3, u4, u5⟩ := MX1.out.at r118.out; exact ⟨s0, s1, s2, u0, u1, u2, u3, u4, u5⟩
              clear hK K hHeld
              try simp only [List.getElem_toArray, List.getElem_cons_succ, List.getElem_cons_zero, Act.put, List.setIfInBounds_toArray, List.set_cons_zero, List.set_cons_succ]
              refine wpAnyH_more (S' := (fun U => U.cell? ⟨R, 0, none⟩ = some (.int .i64 r) ∧ U.cell? ⟨R, 1, none⟩ = some (.int .i64 m) ∧ U.cell? ⟨R, 2, none⟩ = some (.slice pL nL cL) ∧ U.cell? ⟨g1, 0, none⟩ = some (.int .u64 x.id) ∧ U.cell? ⟨g1, 1, none⟩ = some (.int .u32 x.mb) ∧ U.cell? ⟨g1, 2, none⟩ = some (.int .i64 x.sd) ∧ U.cell? ⟨g1, 3, none⟩ = some (.int .i64 x.ty) ∧ U.cell? ⟨g1, 4, none⟩ = some (.int .i64 x.pr) ∧ U.cell? ⟨g1, 5, none⟩ = some (.int .u64 x.qt) ∧ U.cell? ⟨g2, 0, none⟩ = some (.int .u64 y.id) ∧ U.cell? ⟨g2, 1, none⟩ = some (.int .u32 y.mb) ∧ U.cell? ⟨g2, 2, none⟩ = some (.int .i64 y.sd) ∧ U.cell? ⟨g2, 3, none⟩ = some (.int .i64 y.ty) ∧ U.cell? ⟨g2, 4, none⟩ = some (.int .i64 y.pr) ∧ U.cell? ⟨g2, 5, none⟩ = some (.int .u64 y.qt))) (fun U h => by obtain ⟨h0, h1, h2, h3, h4, h5, h6, h7, h8, h9, h10, h11, h12, h13, h14⟩ := h; exact ⟨h0, h1, h2, h3, h4, h5, h6, h7, h8⟩) _ _ _ _ ?_
              have hHeld : (fun U => U.cell? ⟨R, 0, none⟩ = some (.int .i64 r) ∧ U.cell? ⟨R, 1, none⟩ = some (.int .i64 m) ∧ U.cell? ⟨R, 2, none⟩ = some (.slice pL nL cL) ∧ U.cell? ⟨g1, 0, none⟩ = some (.int .u64 x.id) ∧ U.cell? ⟨g1, 1, none⟩ = some (.int .u32 x.mb) ∧ U.cell? ⟨g1, 2, none⟩ = some (.int .i64 x.sd) ∧ U.cell? ⟨g1, 3, none⟩ = some (.int .i64 x.ty) ∧ U.cell? ⟨g1, 4, none⟩ = some (.int .i64 x.pr) ∧ U.cell? ⟨g1, 5, none⟩ = some (.int .u64 x.qt) ∧ U.cell? ⟨g2, 0, none⟩ = some (.int .u64 y.id) ∧ U.cell? ⟨g2, 1, none⟩ = some (.int .u32 y.mb) ∧ U.cell? ⟨g2, 2, none⟩ = some (.int .i64 y.sd) ∧ U.cell? ⟨g2, 3, none⟩ = some (.int .i64 y.ty) ∧ U.cell? ⟨g2, 4, none⟩ = some (.int .i64 y.pr) ∧ U.cell? ⟨g2, 5, none⟩ = some (.int .u64 y.qt)) X116 := by dsimp only; obtain ⟨s0, s1, s2⟩ := row3 r117.out; obtain ⟨u0, u1, u2, u3, u4, u5⟩ := MX1.out.at r118.out; obtain ⟨v0, v1', v2, v3, v4, v5⟩ := MX116.out.at EX116.out; exact ⟨s0, s1, s2, u0, u1, u2, u3, u4, u5, v0, v1', v2, v3, v4, v5⟩
              dsimp only at hHeld
              refine' wpAnyH_take (i := 6) (oi := _) (v := _) rfl (by kernel_rfl) (by kernel_rfl) (by kernel_rfl) (fun _ _ _ h => h) (Or.inl ⟨by kernel_rfl, ?_⟩) (by assumption) ?_
              rotate_left
              · (intro w hSw; (try dsimp only at hSw); go_simp; try (with_reducible rfl))
              try simp only [List.getElem_toArray, List.getElem_cons_succ, List.getElem_cons_zero, Act.put, List.setIfInBounds_toArray, List.set_cons_zero, List.set_cons_succ]
              refine' wpAnyH_take (i := 7) (oi := _) (v := _) rfl (by kernel_rfl) (by kernel_rfl) (by kernel_rfl) (fun _ _ _ h => h) (Or.inl ⟨by kernel_rfl, ?_⟩) (by assumption) ?_
              rotate_left
              · (intro w hSw; (try dsimp only at hSw); go_simp; try (with_reducible rfl))
              try simp only [List.getElem_toArray, List.getElem_cons_succ, List.getElem_cons_zero, Act.put, List.setIfInBounds_toArray, List.set_cons_zero, List.set_cons_succ]
              refine wpAnyH_ready (rs := [10]) (by kernel_rfl) (by simp) ?_
              refine AllReadyH.cons (o := _) rfl (fun KK hK => ?_) AllReadyH.nil
              refine step_store_row (by rfl) 35 (.tmp 10) (.tmp 29) (by rfl) g112 #[.int .u64 x.id, .int .u32 x.mb, .int .i64 x.sd, .int .i64 x.ty, .int .i64 x.pr, .int .u64 x.qt] (by rfl) (by rfl) 35 _ r120.out AIx.out ASx.out AAx.out ?_
              obtain ⟨Y121, hY121⟩ : ∃ Y, X116.setRow g112 #[.int .u64 x.id, .int .u32 x.mb, .int .i64 x.sd, .int .i64 x.ty, .int .i64 x.pr, .int .u64 x.qt] = Y := ⟨_, rfl⟩
              have KY121 := hid (show Kp (fun j => j = g112) X116 Y121 from by rw [← hY121]; exact setRow_kp _ _ _)
              have AY121 := hid (show Y121.heap[g112]? = some (.cells #[.int .u64 x.id, .int .u32 x.mb, .int .i64 x.sd, .int .i64 x.ty, .int .i64 x.pr, .int .u64 x.qt] 35 (0, 0)) from by rw [← hY121]; exact setRow_heap X116 g112 _ _ 35 (0, 0) r120.out)
              have BY121 := hid (show Below wr.heap.size wr Y121 from by rw [← hY121]; exact setRow_below BX116.out yg112)
              have r122 := hid (KY121.out.row r117.out (fun e => ne_a_R e.symm))
              have r123 := hid (KY121.out.row r118.out (fun e => ne_a_g1 e.symm))
              have r124 := hid (KY121.out.row EX116.out (fun e => ne_a_g2 e.symm))
              have r125 := hid (KY121.out.row r119.out (fun e => ne_a_b e.symm))
              rw [hY121]
              refine hK.out _ _ ?_ (fun hHeld => ?_)
              · (try dsimp only); obtain ⟨s0, s1, s2⟩ := row3 r122.out; obtain ⟨u0, u1, u2, u3, u4, u5⟩ := MX1.out.at r123.out; obtain ⟨v0, v1', v2, v3, v4, v5⟩ := MX116.out.at r124.out; exact ⟨s0, s1, s2, u0, u1, u2, u3, u4, u5, v0, v1', v2, v3, v4, v5⟩
              clear hK hY121
              try simp only [List.getElem_toArray, List.getElem_cons_succ, List.getElem_cons_zero, Act.put, List.setIfInBounds_toArray, List.set_cons_zero, List.set_cons_succ]
              refine wpAnyH_ready (rs := [11]) (by kernel_rfl) (by simp) ?_
              refine AllReadyH.cons (o := _) rfl (fun KK hK => ?_) AllReadyH.nil
              refine step_store_row (by rfl) 35 (.tmp 11) (.tmp 33) (by rfl) g89 #[.int .u64 y.id, .int .u32 y.mb, .int .i64 y.sd, .int .i64 y.ty, .int .i64 y.pr, .int .u64 y.qt] (by rfl) (by rfl) 35 _ r125.out AIy.out ASy.out AAy.out ?_
              obtain ⟨Y126, hY126⟩ : ∃ Y, Y121.setRow g89 #[.int .u64 y.id, .int .u32 y.mb, .int .i64 y.sd, .int .i64 y.ty, .int .i64 y.pr, .int .u64 y.qt] = Y := ⟨_, rfl⟩
              have KY126 := hid (show Kp (fun j => j = g89) Y121 Y126 from by rw [← hY126]; exact setRow_kp _ _ _)
              have AY126 := hid (show Y126.heap[g89]? = some (.cells #[.int .u64 y.id, .int .u32 y.mb, .int .i64 y.sd, .int .i64 y.ty, .int .i64 y.pr, .int .u64 y.qt] 35 (0, 0)) from by rw [← hY126]; exact setRow_heap Y121 g89 _ _ 35 (0, 0) r125.out)
              have BY126 := hid (show Below wr.heap.size wr Y126 from by rw [← hY126]; exact setRow_below BY121.out yg89)
              have r127 := hid (KY126.out.row r122.out (fun e => ne_b_R e.symm))
              have r128 := hid (KY126.out.row r123.out (fun e => ne_b_g1 e.symm))
              have r129 := hid (KY126.out.row r124.out (fun e => ne_b_g2 e.symm))
              have r_a := hid (KY126.out.row AY121.out (fun e => ne_a_b e))
              rw [hY126]
              refine hK.out _ _ ?_ (fun hHeld => ?_)
              · (try dsimp only); obtain ⟨s0, s1, s2⟩ := row3 r127.out; obtain ⟨u0, u1, u2, u3, u4, u5⟩ := MX1.out.at r128.out; obtain ⟨v0, v1', v2, v3, v4, v5⟩ := MX116.out.at r129.out; exact ⟨s0, s1, s2, u0, u1, u2, u3, u4, u5, v0, v1', v2, v3, v4, v5⟩
              clear hK hY126
              try simp only [List.getElem_toArray, List.getElem_cons_succ, List.getElem_cons_zero, Act.put, List.setIfInBounds_toArray, List.set_cons_zero, List.set_cons_succ]
              refine wpAnyH_done (by kernel_rfl) ?_ _
              exact ⟨(g112, g89, g1, c1, g2, c2), by rfl, BY126, hid yg112, hid yg89, r_a, AY126, hid ne_a_b⟩
        · go_simp
          obtain ⟨X130, hX130⟩ : ∃ X, V0.alloc (.cells #[.int .u64 0, .int .u32 0, .int .i64 0, .int .i64 0, .int .i64 0, .int .u64 0] 35) = X := ⟨_, rfl⟩
          have bX130 : Below V0.heap.size V0 X130 := by rw [← hX130]; exact ball _ _
          have r132 := hid (row_on RV0.out bX130)
          have BX130 := hid (btr BV0.out bX130)
          have zX130 : X130.heap[V0.heap.size]? = some (.cells #[.int .u64 0, .int .u32 0, .int .i64 0, .int .i64 0, .int .i64 0, .int .u64 0] 35 (0, 0)) := by rw [← hX130]; exact World.alloc_heap_new _ _
          have yg131 := BV0.out.size
          obtain ⟨g131, hg131⟩ : ∃ g, V0.heap.size = g := ⟨_, rfl⟩
          have ne_a_R : g131 ≠ R := by have := row_lt RV0.out; omega
          rw [hg131] at zX130 yg131
          have ZX130 := hid zX130
          rw [hX130, hg131]
          clear hX130 hg131 zX130 bX130
          refine hK.out _ _ ?_ (fun hHeld => ?_)
          · (try dsimp only); obtain ⟨s0, s1, s2⟩ := row3 r132.out; exact ⟨s0, s1, s2⟩
          clear hK K
          try simp only [List.getElem_toArray, List.getElem_cons_succ, List.getElem_cons_zero, Act.put, List.setIfInBounds_toArray, List.set_cons_zero, List.set_cons_succ]
          refine wpAnyH_ready (rs := [1, 9]) (by kernel_rfl) (by simp) ?_
          refine (AllReadyH.cons (o := _) rfl (fun K hK => ?_) (AllReadyH.cons (o := _) rfl (fun K hK => ?_) AllReadyH.nil))
          · go_simp
            go_at_call 25
            with_reducible refine (C1.out X130 BX130.out).mono ?_
            rintro e X133 ⟨g1, c1, cu1, rfl, DX133, GX133, EX133, MX133⟩
            have r134 := hid (row_on r132.out DX133.out)
            have r135 := hid (row_on ZX130.out DX133.out)
            have BX133 := hid (btr BX130.out DX133.out)
            have ne_a_g1 : g131 ≠ g1 := by have := row_lt ZX130.out; have := GX133.out; omega
            (try go_wp2_with fail)
            refine hK.out _ _ ?_ (fun hHeld => ?_)
            · (try dsimp only); obtain ⟨s0, s1, s2⟩ := row3 r134.out; exact ⟨s0, s1, s2⟩
            clear hK K hHeld
            try simp only [List.getElem_toArray, List.getElem_cons_succ, List.getElem_cons_zero, Act.put, List.setIfInBounds_toArray, List.set_cons_zero, List.set_cons_succ]
            refine wpAnyH_more (S' := (fun U => U.cell? ⟨R, 0, none⟩ = some (.int .i64 r) ∧ U.cell? ⟨R, 1, none⟩ = some (.int .i64 m) ∧ U.cell? ⟨R, 2, none⟩ = some (.slice pL nL cL) ∧ U.cell? ⟨g1, 0, none⟩ = some (.int .u64 x.id) ∧ U.cell? ⟨g1, 1, none⟩ = some (.int .u32 x.mb) ∧ U.cell? ⟨g1, 2, none⟩ = some (.int .i64 x.sd) ∧ U.cell? ⟨g1, 3, none⟩ = some (.int .i64 x.ty) ∧ U.cell? ⟨g1, 4, none⟩ = some (.int .i64 x.pr) ∧ U.cell? ⟨g1, 5, none⟩ = some (.int .u64 x.qt))) (fun U h => by obtain ⟨h0, h1, h2, h3, h4, h5, h6, h7, h8⟩ := h; exact ⟨h0, h1, h2⟩) _ _ _ _ ?_
            have hHeld : (fun U => U.cell? ⟨R, 0, none⟩ = some (.int .i64 r) ∧ U.cell? ⟨R, 1, none⟩ = some (.int .i64 m) ∧ U.cell? ⟨R, 2, none⟩ = some (.slice pL nL cL) ∧ U.cell? ⟨g1, 0, none⟩ = some (.int .u64 x.id) ∧ U.cell? ⟨g1, 1, none⟩ = some (.int .u32 x.mb) ∧ U.cell? ⟨g1, 2, none⟩ = some (.int .i64 x.sd) ∧ U.cell? ⟨g1, 3, none⟩ = some (.int .i64 x.ty) ∧ U.cell? ⟨g1, 4, none⟩ = some (.int .i64 x.pr) ∧ U.cell? ⟨g1, 5, none⟩ = some (.int .u64 x.qt)) X133 := by dsimp only; obtain ⟨s0, s1, s2⟩ := row3 r134.out; obtain ⟨u0, u1, u2, u3, u4, u5⟩ := MX133.out.at EX133.out; exact ⟨s0, s1, s2, u0, u1, u2, u3, u4, u5⟩
            dsimp only at hHeld
            refine' wpAnyH_take (i := 2) (oi := _) (v := _) rfl (by kernel_rfl) (by kernel_rfl) (by kernel_rfl) (fun _ _ _ h => h) (Or.inl ⟨by kernel_rfl, ?_⟩) (by assumption) ?_
            rotate_left
            · (intro w hSw; (try dsimp only at hSw); go_simp; try (with_reducible rfl))
            try simp only [List.getElem_toArray, List.getElem_cons_succ, List.getElem_cons_zero, Act.put, List.setIfInBounds_toArray, List.set_cons_zero, List.set_cons_succ]
            refine' wpAnyH_take (i := 3) (oi := _) (v := _) rfl (by kernel_rfl) (by kernel_rfl) (by kernel_rfl) (fun _ _ _ h => h) (Or.inl ⟨by kernel_rfl, ?_⟩) (by assumption) ?_
            rotate_left
            · (intro w hSw; (try dsimp only at hSw); go_simp; try (with_reducible rfl))
            try simp only [List.getElem_toArray, List.getElem_cons_succ, List.getElem_cons_zero, Act.put, List.setIfInBounds_toArray, List.set_cons_zero, List.set_cons_succ]
            refine wpAnyH_ready (rs := [5, 9]) (by kernel_rfl) (by simp) ?_
            refine (AllReadyH.cons (o := _) rfl (fun K hK => ?_) (AllReadyH.cons (o := _) rfl (fun K hK => ?_) AllReadyH.nil))
            · go_simp
              go_at_call 25
              with_reducible refine (C2.out X133 BX133.out).mono ?_
              rintro e X136 ⟨g2, c2, cu2, rfl, DX136, GX136, EX136, MX136⟩
              have r137 := hid (row_on r134.out DX136.out)
              have r138 := hid (row_on r135.out DX136.out)
              have r139 := hid (row_on EX133.out DX136.out)
              have BX136 := hid (btr BX133.out DX136.out)
              have ne_a_g2 : g131 ≠ g2 := by have := row_lt r135.out; have := GX136.out; omega
              (try go_wp2_with fail)
              refine hK.out _ _ ?_ (fun hHeld => ?_)
              · (try dsimp only); obtain ⟨s0, s1, s2⟩ := row3 r137.out; obtain ⟨u0, u1, u2, u3, u4, u5⟩ := MX133.out.at r139.out; exact ⟨s0, s1, s2, u0, u1, u2, u3, u4, u5⟩
              clear hK K hHeld
              try simp only [List.getElem_toArray, List.getElem_cons_succ, List.getElem_cons_zero, Act.put, List.setIfInBounds_toArray, List.set_cons_zero, List.set_cons_succ]
              refine wpAnyH_more (S' := (fun U => U.cell? ⟨R, 0, none⟩ = some (.int .i64 r) ∧ U.cell? ⟨R, 1, none⟩ = some (.int .i64 m) ∧ U.cell? ⟨R, 2, none⟩ = some (.slice pL nL cL) ∧ U.cell? ⟨g1, 0, none⟩ = some (.int .u64 x.id) ∧ U.cell? ⟨g1, 1, none⟩ = some (.int .u32 x.mb) ∧ U.cell? ⟨g1, 2, none⟩ = some (.int .i64 x.sd) ∧ U.cell? ⟨g1, 3, none⟩ = some (.int .i64 x.ty) ∧ U.cell? ⟨g1, 4, none⟩ = some (.int .i64 x.pr) ∧ U.cell? ⟨g1, 5, none⟩ = some (.int .u64 x.qt) ∧ U.cell? ⟨g2, 0, none⟩ = some (.int .u64 y.id) ∧ U.cell? ⟨g2, 1, none⟩ = some (.int .u32 y.mb) ∧ U.cell? ⟨g2, 2, none⟩ = some (.int .i64 y.sd) ∧ U.cell? ⟨g2, 3, none⟩ = some (.int .i64 y.ty) ∧ U.cell? ⟨g2, 4, none⟩ = some (.int .i64 y.pr) ∧ U.cell? ⟨g2, 5, none⟩ = some (.int .u64 y.qt))) (fun U h => by obtain ⟨h0, h1, h2, h3, h4, h5, h6, h7, h8, h9, h10, h11, h12, h13, h14⟩ := h; exact ⟨h0, h1, h2, h3, h4, h5, h6, h7, h8⟩) _ _ _ _ ?_
              have hHeld : (fun U => U.cell? ⟨R, 0, none⟩ = some (.int .i64 r) ∧ U.cell? ⟨R, 1, none⟩ = some (.int .i64 m) ∧ U.cell? ⟨R, 2, none⟩ = some (.slice pL nL cL) ∧ U.cell? ⟨g1, 0, none⟩ = some (.int .u64 x.id) ∧ U.cell? ⟨g1, 1, none⟩ = some (.int .u32 x.mb) ∧ U.cell? ⟨g1, 2, none⟩ = some (.int .i64 x.sd) ∧ U.cell? ⟨g1, 3, none⟩ = some (.int .i64 x.ty) ∧ U.cell? ⟨g1, 4, none⟩ = some (.int .i64 x.pr) ∧ U.cell? ⟨g1, 5, none⟩ = some (.int .u64 x.qt) ∧ U.cell? ⟨g2, 0, none⟩ = some (.int .u64 y.id) ∧ U.cell? ⟨g2, 1, none⟩ = some (.int .u32 y.mb) ∧ U.cell? ⟨g2, 2, none⟩ = some (.int .i64 y.sd) ∧ U.cell? ⟨g2, 3, none⟩ = some (.int .i64 y.ty) ∧ U.cell? ⟨g2, 4, none⟩ = some (.int .i64 y.pr) ∧ U.cell? ⟨g2, 5, none⟩ = some (.int .u64 y.qt)) X136 := by dsimp only; obtain ⟨s0, s1, s2⟩ := row3 r137.out; obtain ⟨u0, u1, u2, u3, u4, u5⟩ := MX133.out.at r139.out; obtain ⟨v0, v1', v2, v3, v4, v5⟩ := MX136.out.at EX136.out; exact ⟨s0, s1, s2, u0, u1, u2, u3, u4, u5, v0, v1', v2, v3, v4, v5⟩
              dsimp only at hHeld
              refine' wpAnyH_take (i := 6) (oi := _) (v := _) rfl (by kernel_rfl) (by kernel_rfl) (by kernel_rfl) (fun _ _ _ h => h) (Or.inl ⟨by kernel_rfl, ?_⟩) (by assumption) ?_
              rotate_left
              · (intro w hSw; (try dsimp only at hSw); go_simp; try (with_reducible rfl))
              try simp only [List.getElem_toArray, List.getElem_cons_succ, List.getElem_cons_zero, Act.put, List.setIfInBounds_toArray, List.set_cons_zero, List.set_cons_succ]
              refine' wpAnyH_take (i := 7) (oi := _) (v := _) rfl (by kernel_rfl) (by kernel_rfl) (by kernel_rfl) (fun _ _ _ h => h) (Or.inl ⟨by kernel_rfl, ?_⟩) (by assumption) ?_
              rotate_left
              · (intro w hSw; (try dsimp only at hSw); go_simp; try (with_reducible rfl))
              try simp only [List.getElem_toArray, List.getElem_cons_succ, List.getElem_cons_zero, Act.put, List.setIfInBounds_toArray, List.set_cons_zero, List.set_cons_succ]
              refine wpAnyH_ready (rs := [9]) (by kernel_rfl) (by simp) ?_
              refine (AllReadyH.cons (o := _) rfl (fun K hK => ?_) AllReadyH.nil)
              go_simp
              obtain ⟨X140, hX140⟩ : ∃ X, X136.alloc (.cells #[.int .u64 0, .int .u32 0, .int .i64 0, .int .i64 0, .int .i64 0, .int .u64 0] 35) = X := ⟨_, rfl⟩
              have bX140 : Below X136.heap.size X136 X140 := by rw [← hX140]; exact ball _ _
              have r142 := hid (row_on r137.out bX140)
              have r143 := hid (row_on r138.out bX140)
              have r144 := hid (row_on r139.out bX140)
              have r145 := hid (row_on EX136.out bX140)
              have BX140 := hid (btr BX136.out bX140)
              have zX140 : X140.heap[X136.heap.size]? = some (.cells #[.int .u64 0, .int .u32 0, .int .i64 0, .int .i64 0, .int .i64 0, .int .u64 0] 35 (0, 0)) := by rw [← hX140]; exact World.alloc_heap_new _ _
              have yg141 := BX136.out.size
              obtain ⟨g141, hg141⟩ : ∃ g, X136.heap.size = g := ⟨_, rfl⟩
              have ne_b_R : g141 ≠ R := by have := row_lt r137.out; omega
              have ne_b_a : g141 ≠ g131 := by have := row_lt r138.out; omega
              have ne_b_g1 : g141 ≠ g1 := by have := row_lt r139.out; omega
              have ne_b_g2 : g141 ≠ g2 := by have := row_lt EX136.out; omega
              rw [hg141] at zX140 yg141
              have ZX140 := hid zX140
              rw [hX140, hg141]
              clear hX140 hg141 zX140 bX140
              refine hK.out _ _ ?_ (fun hHeld => ?_)
              · (try dsimp only); obtain ⟨s0, s1, s2⟩ := row3 r142.out; obtain ⟨u0, u1, u2, u3, u4, u5⟩ := MX133.out.at r144.out; obtain ⟨v0, v1', v2, v3, v4, v5⟩ := MX136.out.at r145.out; exact ⟨s0, s1, s2, u0, u1, u2, u3, u4, u5, v0, v1', v2, v3, v4, v5⟩
              clear hK K
              try simp only [List.getElem_toArray, List.getElem_cons_succ, List.getElem_cons_zero, Act.put, List.setIfInBounds_toArray, List.set_cons_zero, List.set_cons_succ]
              refine wpAnyH_ready (rs := [10]) (by kernel_rfl) (by simp) ?_
              refine AllReadyH.cons (o := _) rfl (fun KK hK => ?_) AllReadyH.nil
              refine step_store_row (by rfl) 35 (.tmp 10) (.tmp 29) (by rfl) g131 #[.int .u64 x.id, .int .u32 x.mb, .int .i64 x.sd, .int .i64 x.ty, .int .i64 x.pr, .int .u64 x.qt] (by rfl) (by rfl) 35 _ r143.out AIx.out ASx.out AAx.out ?_
              obtain ⟨Y146, hY146⟩ : ∃ Y, X140.setRow g131 #[.int .u64 x.id, .int .u32 x.mb, .int .i64 x.sd, .int .i64 x.ty, .int .i64 x.pr, .int .u64 x.qt] = Y := ⟨_, rfl⟩
              have KY146 := hid (show Kp (fun j => j = g131) X140 Y146 from by rw [← hY146]; exact setRow_kp _ _ _)
              have AY146 := hid (show Y146.heap[g131]? = some (.cells #[.int .u64 x.id, .int .u32 x.mb, .int .i64 x.sd, .int .i64 x.ty, .int .i64 x.pr, .int .u64 x.qt] 35 (0, 0)) from by rw [← hY146]; exact setRow_heap X140 g131 _ _ 35 (0, 0) r143.out)
              have BY146 := hid (show Below wr.heap.size wr Y146 from by rw [← hY146]; exact setRow_below BX140.out yg131)
              have r147 := hid (KY146.out.row r142.out (fun e => ne_a_R e.symm))
              have r148 := hid (KY146.out.row r144.out (fun e => ne_a_g1 e.symm))
              have r149 := hid (KY146.out.row r145.out (fun e => ne_a_g2 e.symm))
              have r150 := hid (KY146.out.row ZX140.out (fun e => ne_b_a e))
              rw [hY146]
              refine hK.out _ _ ?_ (fun hHeld => ?_)
              · (try dsimp only); obtain ⟨s0, s1, s2⟩ := row3 r147.out; obtain ⟨u0, u1, u2, u3, u4, u5⟩ := MX133.out.at r148.out; obtain ⟨v0, v1', v2, v3, v4, v5⟩ := MX136.out.at r149.out; exact ⟨s0, s1, s2, u0, u1, u2, u3, u4, u5, v0, v1', v2, v3, v4, v5⟩
              clear hK hY146
              try simp only [List.getElem_toArray, List.getElem_cons_succ, List.getElem_cons_zero, Act.put, List.setIfInBounds_toArray, List.set_cons_zero, List.set_cons_succ]
              refine wpAnyH_ready (rs := [11]) (by kernel_rfl) (by simp) ?_
              refine AllReadyH.cons (o := _) rfl (fun KK hK => ?_) AllReadyH.nil
              refine step_store_row (by rfl) 35 (.tmp 11) (.tmp 33) (by rfl) g141 #[.int .u64 y.id, .int .u32 y.mb, .int .i64 y.sd, .int .i64 y.ty, .int .i64 y.pr, .int .u64 y.qt] (by rfl) (by rfl) 35 _ r150.out AIy.out ASy.out AAy.out ?_
              obtain ⟨Y151, hY151⟩ : ∃ Y, Y146.setRow g141 #[.int .u64 y.id, .int .u32 y.mb, .int .i64 y.sd, .int .i64 y.ty, .int .i64 y.pr, .int .u64 y.qt] = Y := ⟨_, rfl⟩
              have KY151 := hid (show Kp (fun j => j = g141) Y146 Y151 from by rw [← hY151]; exact setRow_kp _ _ _)
              have AY151 := hid (show Y151.heap[g141]? = some (.cells #[.int .u64 y.id, .int .u32 y.mb, .int .i64 y.sd, .int .i64 y.ty, .int .i64 y.pr, .int .u64 y.qt] 35 (0, 0)) from by rw [← hY151]; exact setRow_heap Y146 g141 _ _ 35 (0, 0) r150.out)
              have BY151 := hid (show Below wr.heap.size wr Y151 from by rw [← hY151]; exact setRow_below BY146.out yg141)
              have r152 := hid (KY151.out.row r147.out (fun e => ne_b_R e.symm))
              have r153 := hid (KY151.out.row r148.out (fun e => ne_b_g1 e.symm))
              have r154 := hid (KY151.out.row r149.out (fun e => ne_b_g2 e.symm))
              have r_a := hid (KY151.out.row AY146.out (fun e => ne_b_a e.symm))
              rw [hY151]
              refine hK.out _ _ ?_ (fun hHeld => ?_)
              · (try dsimp only); obtain ⟨s0, s1, s2⟩ := row3 r152.out; obtain ⟨u0, u1, u2, u3, u4, u5⟩ := MX133.out.at r153.out; obtain ⟨v0, v1', v2, v3, v4, v5⟩ := MX136.out.at r154.out; exact ⟨s0, s1, s2, u0, u1, u2, u3, u4, u5, v0, v1', v2, v3, v4, v5⟩
              clear hK hY151
              try simp only [List.getElem_toArray, List.getElem_cons_succ, List.getElem_cons_zero, Act.put, List.setIfInBounds_toArray, List.set_cons_zero, List.set_cons_succ]
              refine wpAnyH_done (by kernel_rfl) ?_ _
              exact ⟨(g131, g141, g1, c1, g2, c2), by rfl, BY151, hid yg131, hid yg141, r_a, AY151, hid fun e => ne_b_a e.symm⟩
            · go_simp
              obtain ⟨X155, hX155⟩ : ∃ X, X133.alloc (.cells #[.int .u64 0, .int .u32 0, .int .i64 0, .int .i64 0, .int .i64 0, .int .u64 0] 35) = X := ⟨_, rfl⟩
              have bX155 : Below X133.heap.size X133 X155 := by rw [← hX155]; exact ball _ _
              have r157 := hid (row_on r134.out bX155)
              have r158 := hid (row_on r135.out bX155)
              have r159 := hid (row_on EX133.out bX155)
              have BX155 := hid (btr BX133.out bX155)
              have zX155 : X155.heap[X133.heap.size]? = some (.cells #[.int .u64 0, .int .u32 0, .int .i64 0, .int .i64 0, .int .i64 0, .int .u64 0] 35 (0, 0)) := by rw [← hX155]; exact World.alloc_heap_new _ _
              have yg156 := BX133.out.size
              obtain ⟨g156, hg156⟩ : ∃ g, X133.heap.size = g := ⟨_, rfl⟩
              have ne_b_R : g156 ≠ R := by have := row_lt r134.out; omega
              have ne_b_a : g156 ≠ g131 := by have := row_lt r135.out; omega
              have ne_b_g1 : g156 ≠ g1 := by have := row_lt EX133.out; omega
              rw [hg156] at zX155 yg156
              have ZX155 := hid zX155
              rw [hX155, hg156]
              clear hX155 hg156 zX155 bX155
              refine hK.out _ _ ?_ (fun hHeld => ?_)
              · (try dsimp only); obtain ⟨s0, s1, s2⟩ := row3 r157.out; obtain ⟨u0, u1, u2, u3, u4, u5⟩ := MX133.out.at r159.out; exact ⟨s0, s1, s2, u0, u1, u2, u3, u4, u5⟩
              clear hK K
              try simp only [List.getElem_toArray, List.getElem_cons_succ, List.getElem_cons_zero, Act.put, List.setIfInBounds_toArray, List.set_cons_zero, List.set_cons_succ]
              refine wpAnyH_ready (rs := [5]) (by kernel_rfl) (by simp) ?_
              refine (AllReadyH.cons (o := _) rfl (fun K hK => ?_) AllReadyH.nil)
              go_simp
              go_at_call 25
              with_reducible refine (C2.out X155 BX155.out).mono ?_
              rintro e X160 ⟨g2, c2, cu2, rfl, DX160, GX160, EX160, MX160⟩
              have r161 := hid (row_on r157.out DX160.out)
              have r162 := hid (row_on r158.out DX160.out)
              have r163 := hid (row_on r159.out DX160.out)
              have r164 := hid (row_on ZX155.out DX160.out)
              have BX160 := hid (btr BX155.out DX160.out)
              have ne_a_g2 : g131 ≠ g2 := by have := row_lt r158.out; have := GX160.out; omega
              have ne_b_g2 : g156 ≠ g2 := by have := row_lt ZX155.out; have := GX160.out; omega
              (try go_wp2_with fail)
              refine hK.out _ _ ?_ (fun hHeld => ?_)
              · (try dsimp only); obtain ⟨s0, s1, s2⟩ := row3 r161.out; obtain ⟨u0, u1, u2, u3, u4, u5⟩ := MX133.out.at r163.out; exact ⟨s0, s1, s2, u0, u1, u2, u3, u4, u5⟩
              clear hK K hHeld
              try simp only [List.getElem_toArray, List.getElem_cons_succ, List.getElem_cons_zero, Act.put, List.setIfInBounds_toArray, List.set_cons_zero, List.set_cons_succ]
              refine wpAnyH_more (S' := (fun U => U.cell? ⟨R, 0, none⟩ = some (.int .i64 r) ∧ U.cell? ⟨R, 1, none⟩ = some (.int .i64 m) ∧ U.cell? ⟨R, 2, none⟩ = some (.slice pL nL cL) ∧ U.cell? ⟨g1, 0, none⟩ = some (.int .u64 x.id) ∧ U.cell? ⟨g1, 1, none⟩ = some (.int .u32 x.mb) ∧ U.cell? ⟨g1, 2, none⟩ = some (.int .i64 x.sd) ∧ U.cell? ⟨g1, 3, none⟩ = some (.int .i64 x.ty) ∧ U.cell? ⟨g1, 4, none⟩ = some (.int .i64 x.pr) ∧ U.cell? ⟨g1, 5, none⟩ = some (.int .u64 x.qt) ∧ U.cell? ⟨g2, 0, none⟩ = some (.int .u64 y.id) ∧ U.cell? ⟨g2, 1, none⟩ = some (.int .u32 y.mb) ∧ U.cell? ⟨g2, 2, none⟩ = some (.int .i64 y.sd) ∧ U.cell? ⟨g2, 3, none⟩ = some (.int .i64 y.ty) ∧ U.cell? ⟨g2, 4, none⟩ = some (.int .i64 y.pr) ∧ U.cell? ⟨g2, 5, none⟩ = some (.int .u64 y.qt))) (fun U h => by obtain ⟨h0, h1, h2, h3, h4, h5, h6, h7, h8, h9, h10, h11, h12, h13, h14⟩ := h; exact ⟨h0, h1, h2, h3, h4, h5, h6, h7, h8⟩) _ _ _ _ ?_
              have hHeld : (fun U => U.cell? ⟨R, 0, none⟩ = some (.int .i64 r) ∧ U.cell? ⟨R, 1, none⟩ = some (.int .i64 m) ∧ U.cell? ⟨R, 2, none⟩ = some (.slice pL nL cL) ∧ U.cell? ⟨g1, 0, none⟩ = some (.int .u64 x.id) ∧ U.cell? ⟨g1, 1, none⟩ = some (.int .u32 x.mb) ∧ U.cell? ⟨g1, 2, none⟩ = some (.int .i64 x.sd) ∧ U.cell? ⟨g1, 3, none⟩ = some (.int .i64 x.ty) ∧ U.cell? ⟨g1, 4, none⟩ = some (.int .i64 x.pr) ∧ U.cell? ⟨g1, 5, none⟩ = some (.int .u64 x.qt) ∧ U.cell? ⟨g2, 0, none⟩ = some (.int .u64 y.id) ∧ U.cell? ⟨g2, 1, none⟩ = some (.int .u32 y.mb) ∧ U.cell? ⟨g2, 2, none⟩ = some (.int .i64 y.sd) ∧ U.cell? ⟨g2, 3, none⟩ = some (.int .i64 y.ty) ∧ U.cell? ⟨g2, 4, none⟩ = some (.int .i64 y.pr) ∧ U.cell? ⟨g2, 5, none⟩ = some (.int .u64 y.qt)) X160 := by dsimp only; obtain ⟨s0, s1, s2⟩ := row3 r161.out; obtain ⟨u0, u1, u2, u3, u4, u5⟩ := MX133.out.at r163.out; obtain ⟨v0, v1', v2, v3, v4, v5⟩ := MX160.out.at EX160.out; exact ⟨s0, s1, s2, u0, u1, u2, u3, u4, u5, v0, v1', v2, v3, v4, v5⟩
              dsimp only at hHeld
              refine' wpAnyH_take (i := 6) (oi := _) (v := _) rfl (by kernel_rfl) (by kernel_rfl) (by kernel_rfl) (fun _ _ _ h => h) (Or.inl ⟨by kernel_rfl, ?_⟩) (by assumption) ?_
              rotate_left
              · (intro w hSw; (try dsimp only at hSw); go_simp; try (with_reducible rfl))
              try simp only [List.getElem_toArray, List.getElem_cons_succ, List.getElem_cons_zero, Act.put, List.setIfInBounds_toArray, List.set_cons_zero, List.set_cons_succ]
              refine' wpAnyH_take (i := 7) (oi := _) (v := _) rfl (by kernel_rfl) (by kernel_rfl) (by kernel_rfl) (fun _ _ _ h => h) (Or.inl ⟨by kernel_rfl, ?_⟩) (by assumption) ?_
              rotate_left
              · (intro w hSw; (try dsimp only at hSw); go_simp; try (with_reducible rfl))
              try simp only [List.getElem_toArray, List.getElem_cons_succ, List.getElem_cons_zero, Act.put, List.setIfInBounds_toArray, List.set_cons_zero, List.set_cons_succ]
              refine wpAnyH_ready (rs := [10]) (by kernel_rfl) (by simp) ?_
              refine AllReadyH.cons (o := _) rfl (fun KK hK => ?_) AllReadyH.nil
              refine step_store_row (by rfl) 35 (.tmp 10) (.tmp 29) (by rfl) g131 #[.int .u64 x.id, .int .u32 x.mb, .int .i64 x.sd, .int .i64 x.ty, .int .i64 x.pr, .int .u64 x.qt] (by rfl) (by rfl) 35 _ r162.out AIx.out ASx.out AAx.out ?_
              obtain ⟨Y165, hY165⟩ : ∃ Y, X160.setRow g131 #[.int .u64 x.id, .int .u32 x.mb, .int .i64 x.sd, .int .i64 x.ty, .int .i64 x.pr, .int .u64 x.qt] = Y := ⟨_, rfl⟩
              have KY165 := hid (show Kp (fun j => j = g131) X160 Y165 from by rw [← hY165]; exact setRow_kp _ _ _)
              have AY165 := hid (show Y165.heap[g131]? = some (.cells #[.int .u64 x.id, .int .u32 x.mb, .int .i64 x.sd, .int .i64 x.ty, .int .i64 x.pr, .int .u64 x.qt] 35 (0, 0)) from by rw [← hY165]; exact setRow_heap X160 g131 _ _ 35 (0, 0) r162.out)
              have BY165 := hid (show Below wr.heap.size wr Y165 from by rw [← hY165]; exact setRow_below BX160.out yg131)
              have r166 := hid (KY165.out.row r161.out (fun e => ne_a_R e.symm))
              have r167 := hid (KY165.out.row r163.out (fun e => ne_a_g1 e.symm))
              have r168 := hid (KY165.out.row EX160.out (fun e => ne_a_g2 e.symm))
              have r169 := hid (KY165.out.row r164.out (fun e => ne_b_a e))
              rw [hY165]
              refine hK.out _ _ ?_ (fun hHeld => ?_)
              · (try dsimp only); obtain ⟨s0, s1, s2⟩ := row3 r166.out; obtain ⟨u0, u1, u2, u3, u4, u5⟩ := MX133.out.at r167.out; obtain ⟨v0, v1', v2, v3, v4, v5⟩ := MX160.out.at r168.out; exact ⟨s0, s1, s2, u0, u1, u2, u3, u4, u5, v0, v1', v2, v3, v4, v5⟩
              clear hK hY165
              try simp only [List.getElem_toArray, List.getElem_cons_succ, List.getElem_cons_zero, Act.put, List.setIfInBounds_toArray, List.set_cons_zero, List.set_cons_succ]
              refine wpAnyH_ready (rs := [11]) (by kernel_rfl) (by simp) ?_
              refine AllReadyH.cons (o := _) rfl (fun KK hK => ?_) AllReadyH.nil
              refine step_store_row (by rfl) 35 (.tmp 11) (.tmp 33) (by rfl) g156 #[.int .u64 y.id, .int .u32 y.mb, .int .i64 y.sd, .int .i64 y.ty, .int .i64 y.pr, .int .u64 y.qt] (by rfl) (by rfl) 35 _ r169.out AIy.out ASy.out AAy.out ?_
              obtain ⟨Y170, hY170⟩ : ∃ Y, Y165.setRow g156 #[.int .u64 y.id, .int .u32 y.mb, .int .i64 y.sd, .int .i64 y.ty, .int .i64 y.pr, .int .u64 y.qt] = Y := ⟨_, rfl⟩
              have KY170 := hid (show Kp (fun j => j = g156) Y165 Y170 from by rw [← hY170]; exact setRow_kp _ _ _)
              have AY170 := hid (show Y170.heap[g156]? = some (.cells #[.int .u64 y.id, .int .u32 y.mb, .int .i64 y.sd, .int .i64 y.ty, .int .i64 y.pr, .int .u64 y.qt] 35 (0, 0)) from by rw [← hY170]; exact setRow_heap Y165 g156 _ _ 35 (0, 0) r169.out)
              have BY170 := hid (show Below wr.heap.size wr Y170 from by rw [← hY170]; exact setRow_below BY165.out yg156)
              have r171 := hid (KY170.out.row r166.out (fun e => ne_b_R e.symm))
              have r172 := hid (KY170.out.row r167.out (fun e => ne_b_g1 e.symm))
              have r173 := hid (KY170.out.row r168.out (fun e => ne_b_g2 e.symm))
              have r_a := hid (KY170.out.row AY165.out (fun e => ne_b_a e.symm))
              rw [hY170]
              refine hK.out _ _ ?_ (fun hHeld => ?_)
              · (try dsimp only); obtain ⟨s0, s1, s2⟩ := row3 r171.out; obtain ⟨u0, u1, u2, u3, u4, u5⟩ := MX133.out.at r172.out; obtain ⟨v0, v1', v2, v3, v4, v5⟩ := MX160.out.at r173.out; exact ⟨s0, s1, s2, u0, u1, u2, u3, u4, u5, v0, v1', v2, v3, v4, v5⟩
              clear hK hY170
              try simp only [List.getElem_toArray, List.getElem_cons_succ, List.getElem_cons_zero, Act.put, List.setIfInBounds_toArray, List.set_cons_zero, List.set_cons_succ]
              refine wpAnyH_done (by kernel_rfl) ?_ _
              exact ⟨(g131, g156, g1, c1, g2, c2), by rfl, BY170, hid yg131, hid yg156, r_a, AY170, hid fun e => ne_b_a e.symm⟩
          · go_simp
            obtain ⟨X174, hX174⟩ : ∃ X, X130.alloc (.cells #[.int .u64 0, .int .u32 0, .int .i64 0, .int .i64 0, .int .i64 0, .int .u64 0] 35) = X := ⟨_, rfl⟩
            have bX174 : Below X130.heap.size X130 X174 := by rw [← hX174]; exact ball _ _
            have r176 := hid (row_on r132.out bX174)
            have r177 := hid (row_on ZX130.out bX174)
            have BX174 := hid (btr BX130.out bX174)
            have zX174 : X174.heap[X130.heap.size]? = some (.cells #[.int .u64 0, .int .u32 0, .int .i64 0, .int .i64 0, .int .i64 0, .int .u64 0] 35 (0, 0)) := by rw [← hX174]; exact World.alloc_heap_new _ _
            have yg175 := BX130.out.size
            obtain ⟨g175, hg175⟩ : ∃ g, X130.heap.size = g := ⟨_, rfl⟩
            have ne_b_R : g175 ≠ R := by have := row_lt r132.out; omega
            have ne_b_a : g175 ≠ g131 := by have := row_lt ZX130.out; omega
            rw [hg175] at zX174 yg175
            have ZX174 := hid zX174
            rw [hX174, hg175]
            clear hX174 hg175 zX174 bX174
            refine hK.out _ _ ?_ (fun hHeld => ?_)
            · (try dsimp only); obtain ⟨s0, s1, s2⟩ := row3 r176.out; exact ⟨s0, s1, s2⟩
            clear hK K
            try simp only [List.getElem_toArray, List.getElem_cons_succ, List.getElem_cons_zero, Act.put, List.setIfInBounds_toArray, List.set_cons_zero, List.set_cons_succ]
            refine wpAnyH_ready (rs := [1]) (by kernel_rfl) (by simp) ?_
            refine (AllReadyH.cons (o := _) rfl (fun K hK => ?_) AllReadyH.nil)
            go_simp
            go_at_call 25
            with_reducible refine (C1.out X174 BX174.out).mono ?_
            rintro e X178 ⟨g1, c1, cu1, rfl, DX178, GX178, EX178, MX178⟩
            have r179 := hid (row_on r176.out DX178.out)
            have r180 := hid (row_on r177.out DX178.out)
            have r181 := hid (row_on ZX174.out DX178.out)
            have BX178 := hid (btr BX174.out DX178.out)
            have ne_a_g1 : g131 ≠ g1 := by have := row_lt r177.out; have := GX178.out; omega
            have ne_b_g1 : g175 ≠ g1 := by have := row_lt ZX174.out; have := GX178.out; omega
            (try go_wp2_with fail)
            refine hK.out _ _ ?_ (fun hHeld => ?_)
            · (try dsimp only); obtain ⟨s0, s1, s2⟩ := row3 r179.out; exact ⟨s0, s1, s2⟩
            clear hK K hHeld
            try simp only [List.getElem_toArray, List.getElem_cons_succ, List.getElem_cons_zero, Act.put, List.setIfInBounds_toArray, List.set_cons_zero, List.set_cons_succ]
            refine wpAnyH_more (S' := (fun U => U.cell? ⟨R, 0, none⟩ = some (.int .i64 r) ∧ U.cell? ⟨R, 1, none⟩ = some (.int .i64 m) ∧ U.cell? ⟨R, 2, none⟩ = some (.slice pL nL cL) ∧ U.cell? ⟨g1, 0, none⟩ = some (.int .u64 x.id) ∧ U.cell? ⟨g1, 1, none⟩ = some (.int .u32 x.mb) ∧ U.cell? ⟨g1, 2, none⟩ = some (.int .i64 x.sd) ∧ U.cell? ⟨g1, 3, none⟩ = some (.int .i64 x.ty) ∧ U.cell? ⟨g1, 4, none⟩ = some (.int .i64 x.pr) ∧ U.cell? ⟨g1, 5, none⟩ = some (.int .u64 x.qt))) (fun U h => by obtain ⟨h0, h1, h2, h3, h4, h5, h6, h7, h8⟩ := h; exact ⟨h0, h1, h2⟩) _ _ _ _ ?_
            have hHeld : (fun U => U.cell? ⟨R, 0, none⟩ = some (.int .i64 r) ∧ U.cell? ⟨R, 1, none⟩ = some (.int .i64 m) ∧ U.cell? ⟨R, 2, none⟩ = some (.slice pL nL cL) ∧ U.cell? ⟨g1, 0, none⟩ = some (.int .u64 x.id) ∧ U.cell? ⟨g1, 1, none⟩ = some (.int .u32 x.mb) ∧ U.cell? ⟨g1, 2, none⟩ = some (.int .i64 x.sd) ∧ U.cell? ⟨g1, 3, none⟩ = some (.int .i64 x.ty) ∧ U.cell? ⟨g1, 4, none⟩ = some (.int .i64 x.pr) ∧ U.cell? ⟨g1, 5, none⟩ = some (.int .u64 x.qt)) X178 := by dsimp only; obtain ⟨s0, s1, s2⟩ := row3 r179.out; obtain ⟨u0, u1, u2, u3, u4, u5⟩ := MX178.out.at EX178.out; exact ⟨s0, s1, s2, u0, u1, u2, u3, u4, u5⟩
            dsimp only at hHeld
            refine' wpAnyH_take (i := 2) (oi := _) (v := _) rfl (by kernel_rfl) (by kernel_rfl) (by kernel_rfl) (fun _ _ _ h => h) (Or.inl ⟨by kernel_rfl, ?_⟩) (by assumption) ?_
            rotate_left
            · (intro w hSw; (try dsimp only at hSw); go_simp; try (with_reducible rfl))
            try simp only [List.getElem_toArray, List.getElem_cons_succ, List.getElem_cons_zero, Act.put, List.setIfInBounds_toArray, List.set_cons_zero, List.set_cons_succ]
            refine' wpAnyH_take (i := 3) (oi := _) (v := _) rfl (by kernel_rfl) (by kernel_rfl) (by kernel_rfl) (fun _ _ _ h => h) (Or.inl ⟨by kernel_rfl, ?_⟩) (by assumption) ?_
            rotate_left
            · (intro w hSw; (try dsimp only at hSw); go_simp; try (with_reducible rfl))
            try simp only [List.getElem_toArray, List.getElem_cons_succ, List.getElem_cons_zero, Act.put, List.setIfInBounds_toArray, List.set_cons_zero, List.set_cons_succ]
            refine wpAnyH_ready (rs := [5]) (by kernel_rfl) (by simp) ?_
            refine (AllReadyH.cons (o := _) rfl (fun K hK => ?_) AllReadyH.nil)
            go_simp
            go_at_call 25
            with_reducible refine (C2.out X178 BX178.out).mono ?_
            rintro e X182 ⟨g2, c2, cu2, rfl, DX182, GX182, EX182, MX182⟩
            have r183 := hid (row_on r179.out DX182.out)
            have r184 := hid (row_on r180.out DX182.out)
            have r185 := hid (row_on r181.out DX182.out)
            have r186 := hid (row_on EX178.out DX182.out)
            have BX182 := hid (btr BX178.out DX182.out)
            have ne_a_g2 : g131 ≠ g2 := by have := row_lt r180.out; have := GX182.out; omega
            have ne_b_g2 : g175 ≠ g2 := by have := row_lt r181.out; have := GX182.out; omega
            (try go_wp2_with fail)
            refine hK.out _ _ ?_ (fun hHeld => ?_)
            · (try dsimp only); obtain ⟨s0, s1, s2⟩ := row3 r183.out; obtain ⟨u0, u1, u2, u3, u4, u5⟩ := MX178.out.at r186.out; exact ⟨s0, s1, s2, u0, u1, u2, u3, u4, u5⟩
            clear hK K hHeld
            try simp only [List.getElem_toArray, List.getElem_cons_succ, List.getElem_cons_zero, Act.put, List.setIfInBounds_toArray, List.set_cons_zero, List.set_cons_succ]
            refine wpAnyH_more (S' := (fun U => U.cell? ⟨R, 0, none⟩ = some (.int .i64 r) ∧ U.cell? ⟨R, 1, none⟩ = some (.int .i64 m) ∧ U.cell? ⟨R, 2, none⟩ = some (.slice pL nL cL) ∧ U.cell? ⟨g1, 0, none⟩ = some (.int .u64 x.id) ∧ U.cell? ⟨g1, 1, none⟩ = some (.int .u32 x.mb) ∧ U.cell? ⟨g1, 2, none⟩ = some (.int .i64 x.sd) ∧ U.cell? ⟨g1, 3, none⟩ = some (.int .i64 x.ty) ∧ U.cell? ⟨g1, 4, none⟩ = some (.int .i64 x.pr) ∧ U.cell? ⟨g1, 5, none⟩ = some (.int .u64 x.qt) ∧ U.cell? ⟨g2, 0, none⟩ = some (.int .u64 y.id) ∧ U.cell? ⟨g2, 1, none⟩ = some (.int .u32 y.mb) ∧ U.cell? ⟨g2, 2, none⟩ = some (.int .i64 y.sd) ∧ U.cell? ⟨g2, 3, none⟩ = some (.int .i64 y.ty) ∧ U.cell? ⟨g2, 4, none⟩ = some (.int .i64 y.pr) ∧ U.cell? ⟨g2, 5, none⟩ = some (.int .u64 y.qt))) (fun U h => by obtain ⟨h0, h1, h2, h3, h4, h5, h6, h7, h8, h9, h10, h11, h12, h13, h14⟩ := h; exact ⟨h0, h1, h2, h3, h4, h5, h6, h7, h8⟩) _ _ _ _ ?_
            have hHeld : (fun U => U.cell? ⟨R, 0, none⟩ = some (.int .i64 r) ∧ U.cell? ⟨R, 1, none⟩ = some (.int .i64 m) ∧ U.cell? ⟨R, 2, none⟩ = some (.slice pL nL cL) ∧ U.cell? ⟨g1, 0, none⟩ = some (.int .u64 x.id) ∧ U.cell? ⟨g1, 1, none⟩ = some (.int .u32 x.mb) ∧ U.cell? ⟨g1, 2, none⟩ = some (.int .i64 x.sd) ∧ U.cell? ⟨g1, 3, none⟩ = some (.int .i64 x.ty) ∧ U.cell? ⟨g1, 4, none⟩ = some (.int .i64 x.pr) ∧ U.cell? ⟨g1, 5, none⟩ = some (.int .u64 x.qt) ∧ U.cell? ⟨g2, 0, none⟩ = some (.int .u64 y.id) ∧ U.cell? ⟨g2, 1, none⟩ = some (.int .u32 y.mb) ∧ U.cell? ⟨g2, 2, none⟩ = some (.int .i64 y.sd) ∧ U.cell? ⟨g2, 3, none⟩ = some (.int .i64 y.ty) ∧ U.cell? ⟨g2, 4, none⟩ = some (.int .i64 y.pr) ∧ U.cell? ⟨g2, 5, none⟩ = some (.int .u64 y.qt)) X182 := by dsimp only; obtain ⟨s0, s1, s2⟩ := row3 r183.out; obtain ⟨u0, u1, u2, u3, u4, u5⟩ := MX178.out.at r186.out; obtain ⟨v0, v1', v2, v3, v4, v5⟩ := MX182.out.at EX182.out; exact ⟨s0, s1, s2, u0, u1, u2, u3, u4, u5, v0, v1', v2, v3, v4, v5⟩
            dsimp only at hHeld
            refine' wpAnyH_take (i := 6) (oi := _) (v := _) rfl (by kernel_rfl) (by kernel_rfl) (by kernel_rfl) (fun _ _ _ h => h) (Or.inl ⟨by kernel_rfl, ?_⟩) (by assumption) ?_
            rotate_left
            · (intro w hSw; (try dsimp only at hSw); go_simp; try (with_reducible rfl))
            try simp only [List.getElem_toArray, List.getElem_cons_succ, List.getElem_cons_zero, Act.put, List.setIfInBounds_toArray, List.set_cons_zero, List.set_cons_succ]
            refine' wpAnyH_take (i := 7) (oi := _) (v := _) rfl (by kernel_rfl) (by kernel_rfl) (by kernel_rfl) (fun _ _ _ h => h) (Or.inl ⟨by kernel_rfl, ?_⟩) (by assumption) ?_
            rotate_left
            · (intro w hSw; (try dsimp only at hSw); go_simp; try (with_reducible rfl))
            try simp only [List.getElem_toArray, List.getElem_cons_succ, List.getElem_cons_zero, Act.put, List.setIfInBounds_toArray, List.set_cons_zero, List.set_cons_succ]
            refine wpAnyH_ready (rs := [10]) (by kernel_rfl) (by simp) ?_
            refine AllReadyH.cons (o := _) rfl (fun KK hK => ?_) AllReadyH.nil
            refine step_store_row (by rfl) 35 (.tmp 10) (.tmp 29) (by rfl) g131 #[.int .u64 x.id, .int .u32 x.mb, .int .i64 x.sd, .int .i64 x.ty, .int .i64 x.pr, .int .u64 x.qt] (by rfl) (by rfl) 35 _ r184.out AIx.out ASx.out AAx.out ?_
            obtain ⟨Y187, hY187⟩ : ∃ Y, X182.setRow g131 #[.int .u64 x.id, .int .u32 x.mb, .int .i64 x.sd, .int .i64 x.ty, .int .i64 x.pr, .int .u64 x.qt] = Y := ⟨_, rfl⟩
            have KY187 := hid (show Kp (fun j => j = g131) X182 Y187 from by rw [← hY187]; exact setRow_kp _ _ _)
            have AY187 := hid (show Y187.heap[g131]? = some (.cells #[.int .u64 x.id, .int .u32 x.mb, .int .i64 x.sd, .int .i64 x.ty, .int .i64 x.pr, .int .u64 x.qt] 35 (0, 0)) from by rw [← hY187]; exact setRow_heap X182 g131 _ _ 35 (0, 0) r184.out)
            have BY187 := hid (show Below wr.heap.size wr Y187 from by rw [← hY187]; exact setRow_below BX182.out yg131)
            have r188 := hid (KY187.out.row r183.out (fun e => ne_a_R e.symm))
            have r189 := hid (KY187.out.row r186.out (fun e => ne_a_g1 e.symm))
            have r190 := hid (KY187.out.row EX182.out (fun e => ne_a_g2 e.symm))
            have r191 := hid (KY187.out.row r185.out (fun e => ne_b_a e))
            rw [hY187]
            refine hK.out _ _ ?_ (fun hHeld => ?_)
            · (try dsimp only); obtain ⟨s0, s1, s2⟩ := row3 r188.out; obtain ⟨u0, u1, u2, u3, u4, u5⟩ := MX178.out.at r189.out; obtain ⟨v0, v1', v2, v3, v4, v5⟩ := MX182.out.at r190.out; exact ⟨s0, s1, s2, u0, u1, u2, u3, u4, u5, v0, v1', v2, v3, v4, v5⟩
            clear hK hY187
            try simp only [List.getElem_toArray, List.getElem_cons_succ, List.getElem_cons_zero, Act.put, List.setIfInBounds_toArray, List.set_cons_zero, List.set_cons_succ]
            refine wpAnyH_ready (rs := [11]) (by kernel_rfl) (by simp) ?_
            refine AllReadyH.cons (o := _) rfl (fun KK hK => ?_) AllReadyH.nil
            refine step_store_row (by rfl) 35 (.tmp 11) (.tmp 33) (by rfl) g175 #[.int .u64 y.id, .int .u32 y.mb, .int .i64 y.sd, .int .i64 y.ty, .int .i64 y.pr, .int .u64 y.qt] (by rfl) (by rfl) 35 _ r191.out AIy.out ASy.out AAy.out ?_
            obtain ⟨Y192, hY192⟩ : ∃ Y, Y187.setRow g175 #[.int .u64 y.id, .int .u32 y.mb, .int .i64 y.sd, .int .i64 y.ty, .int .i64 y.pr, .int .u64 y.qt] = Y := ⟨_, rfl⟩
            have KY192 := hid (show Kp (fun j => j = g175) Y187 Y192 from by rw [← hY192]; exact setRow_kp _ _ _)
            have AY192 := hid (show Y192.heap[g175]? = some (.cells #[.int .u64 y.id, .int .u32 y.mb, .int .i64 y.sd, .int .i64 y.ty, .int .i64 y.pr, .int .u64 y.qt] 35 (0, 0)) from by rw [← hY192]; exact setRow_heap Y187 g175 _ _ 35 (0, 0) r191.out)
            have BY192 := hid (show Below wr.heap.size wr Y192 from by rw [← hY192]; exact setRow_below BY187.out yg175)
            have r193 := hid (KY192.out.row r188.out (fun e => ne_b_R e.symm))
            have r194 := hid (KY192.out.row r189.out (fun e => ne_b_g1 e.symm))
            have r195 := hid (KY192.out.row r190.out (fun e => ne_b_g2 e.symm))
            have r_a := hid (KY192.out.row AY187.out (fun e => ne_b_a e.symm))
            rw [hY192]
            refine hK.out _ _ ?_ (fun hHeld => ?_)
            · (try dsimp only); obtain ⟨s0, s1, s2⟩ := row3 r193.out; obtain ⟨u0, u1, u2, u3, u4, u5⟩ := MX178.out.at r194.out; obtain ⟨v0, v1', v2, v3, v4, v5⟩ := MX182.out.at r195.out; exact ⟨s0, s1, s2, u0, u1, u2, u3, u4, u5, v0, v1', v2, v3, v4, v5⟩
            clear hK hY192
            try simp only [List.getElem_toArray, List.getElem_cons_succ, List.getElem_cons_zero, Act.put, List.setIfInBounds_toArray, List.set_cons_zero, List.set_cons_succ]
            refine wpAnyH_done (by kernel_rfl) ?_ _
            exact ⟨(g131, g175, g1, c1, g2, c2), by rfl, BY192, hid yg131, hid yg175, r_a, AY192, hid fun e => ne_b_a e.symm⟩
        · go_simp
          obtain ⟨X196, hX196⟩ : ∃ X, V0.alloc (.cells #[.int .u64 0, .int .u32 0, .int .i64 0, .int .i64 0, .int .i64 0, .int .u64 0] 35) = X := ⟨_, rfl⟩
          have bX196 : Below V0.heap.size V0 X196 := by rw [← hX196]; exact ball _ _
          have r198 := hid (row_on RV0.out bX196)
          have BX196 := hid (btr BV0.out bX196)
          have zX196 : X196.heap[V0.heap.size]? = some (.cells #[.int .u64 0, .int .u32 0, .int .i64 0, .int .i64 0, .int .i64 0, .int .u64 0] 35 (0, 0)) := by rw [← hX196]; exact World.alloc_heap_new _ _
          have yg197 := BV0.out.size
          obtain ⟨g197, hg197⟩ : ∃ g, V0.heap.size = g := ⟨_, rfl⟩
          have ne_b_R : g197 ≠ R := by have := row_lt RV0.out; omega
          rw [hg197] at zX196 yg197
          have ZX196 := hid zX196
          rw [hX196, hg197]
          clear hX196 hg197 zX196 bX196
          refine hK.out _ _ ?_ (fun hHeld => ?_)
          · (try dsimp only); obtain ⟨s0, s1, s2⟩ := row3 r198.out; exact ⟨s0, s1, s2⟩
          clear hK K
          try simp only [List.getElem_toArray, List.getElem_cons_succ, List.getElem_cons_zero, Act.put, List.setIfInBounds_toArray, List.set_cons_zero, List.set_cons_succ]
          refine wpAnyH_ready (rs := [1, 8]) (by kernel_rfl) (by simp) ?_
          refine (AllReadyH.cons (o := _) rfl (fun K hK => ?_) (AllReadyH.cons (o := _) rfl (fun K hK => ?_) AllReadyH.nil))
          · go_simp
            go_at_call 25
            with_reducible refine (C1.out X196 BX196.out).mono ?_
            rintro e X199 ⟨g1, c1, cu1, rfl, DX199, GX199, EX199, MX199⟩
            have r200 := hid (row_on r198.out DX199.out)
            have r201 := hid (row_on ZX196.out DX199.out)
            have BX199 := hid (btr BX196.out DX199.out)
            have ne_b_g1 : g197 ≠ g1 := by have := row_lt ZX196.out; have := GX199.out; omega
            (try go_wp2_with fail)
            refine hK.out _ _ ?_ (fun hHeld => ?_)
            · (try dsimp only); obtain ⟨s0, s1, s2⟩ := row3 r200.out; exact ⟨s0, s1, s2⟩
            clear hK K hHeld
            try simp only [List.getElem_toArray, List.getElem_cons_succ, List.getElem_cons_zero, Act.put, List.setIfInBounds_toArray, List.set_cons_zero, List.set_cons_succ]
            refine wpAnyH_more (S' := (fun U => U.cell? ⟨R, 0, none⟩ = some (.int .i64 r) ∧ U.cell? ⟨R, 1, none⟩ = some (.int .i64 m) ∧ U.cell? ⟨R, 2, none⟩ = some (.slice pL nL cL) ∧ U.cell? ⟨g1, 0, none⟩ = some (.int .u64 x.id) ∧ U.cell? ⟨g1, 1, none⟩ = some (.int .u32 x.mb) ∧ U.cell? ⟨g1, 2, none⟩ = some (.int .i64 x.sd) ∧ U.cell? ⟨g1, 3, none⟩ = some (.int .i64 x.ty) ∧ U.cell? ⟨g1, 4, none⟩ = some (.int .i64 x.pr) ∧ U.cell? ⟨g1, 5, none⟩ = some (.int .u64 x.qt))) (fun U h => by obtain ⟨h0, h1, h2, h3, h4, h5, h6, h7, h8⟩ := h; exact ⟨h0, h1, h2⟩) _ _ _ _ ?_
            have hHeld : (fun U => U.cell? ⟨R, 0, none⟩ = some (.int .i64 r) ∧ U.cell? ⟨R, 1, none⟩ = some (.int .i64 m) ∧ U.cell? ⟨R, 2, none⟩ = some (.slice pL nL cL) ∧ U.cell? ⟨g1, 0, none⟩ = some (.int .u64 x.id) ∧ U.cell? ⟨g1, 1, none⟩ = some (.int .u32 x.mb) ∧ U.cell? ⟨g1, 2, none⟩ = some (.int .i64 x.sd) ∧ U.cell? ⟨g1, 3, none⟩ = some (.int .i64 x.ty) ∧ U.cell? ⟨g1, 4, none⟩ = some (.int .i64 x.pr) ∧ U.cell? ⟨g1, 5, none⟩ = some (.int .u64 x.qt)) X199 := by dsimp only; obtain ⟨s0, s1, s2⟩ := row3 r200.out; obtain ⟨u0, u1, u2, u3, u4, u5⟩ := MX199.out.at EX199.out; exact ⟨s0, s1, s2, u0, u1, u2, u3, u4, u5⟩
            dsimp only at hHeld
            refine' wpAnyH_take (i := 2) (oi := _) (v := _) rfl (by kernel_rfl) (by kernel_rfl) (by kernel_rfl) (fun _ _ _ h => h) (Or.inl ⟨by kernel_rfl, ?_⟩) (by assumption) ?_
            rotate_left
            · (intro w hSw; (try dsimp only at hSw); go_simp; try (with_reducible rfl))
            try simp only [List.getElem_toArray, List.getElem_cons_succ, List.getElem_cons_zero, Act.put, List.setIfInBounds_toArray, List.set_cons_zero, List.set_cons_succ]
            refine' wpAnyH_take (i := 3) (oi := _) (v := _) rfl (by kernel_rfl) (by kernel_rfl) (by kernel_rfl) (fun _ _ _ h => h) (Or.inl ⟨by kernel_rfl, ?_⟩) (by assumption) ?_
            rotate_left
            · (intro w hSw; (try dsimp only at hSw); go_simp; try (with_reducible rfl))
            try simp only [List.getElem_toArray, List.getElem_cons_succ, List.getElem_cons_zero, Act.put, List.setIfInBounds_toArray, List.set_cons_zero, List.set_cons_succ]
            refine wpAnyH_ready (rs := [5, 8]) (by kernel_rfl) (by simp) ?_
            refine (AllReadyH.cons (o := _) rfl (fun K hK => ?_) (AllReadyH.cons (o := _) rfl (fun K hK => ?_) AllReadyH.nil))
            · go_simp
              go_at_call 25
              with_reducible refine (C2.out X199 BX199.out).mono ?_
              rintro e X202 ⟨g2, c2, cu2, rfl, DX202, GX202, EX202, MX202⟩
              have r203 := hid (row_on r200.out DX202.out)
              have r204 := hid (row_on r201.out DX202.out)
              have r205 := hid (row_on EX199.out DX202.out)
              have BX202 := hid (btr BX199.out DX202.out)
              have ne_b_g2 : g197 ≠ g2 := by have := row_lt r201.out; have := GX202.out; omega
              (try go_wp2_with fail)
              refine hK.out _ _ ?_ (fun hHeld => ?_)
              · (try dsimp only); obtain ⟨s0, s1, s2⟩ := row3 r203.out; obtain ⟨u0, u1, u2, u3, u4, u5⟩ := MX199.out.at r205.out; exact ⟨s0, s1, s2, u0, u1, u2, u3, u4, u5⟩
              clear hK K hHeld
              try simp only [List.getElem_toArray, List.getElem_cons_succ, List.getElem_cons_zero, Act.put, List.setIfInBounds_toArray, List.set_cons_zero, List.set_cons_succ]
              refine wpAnyH_more (S' := (fun U => U.cell? ⟨R, 0, none⟩ = some (.int .i64 r) ∧ U.cell? ⟨R, 1, none⟩ = some (.int .i64 m) ∧ U.cell? ⟨R, 2, none⟩ = some (.slice pL nL cL) ∧ U.cell? ⟨g1, 0, none⟩ = some (.int .u64 x.id) ∧ U.cell? ⟨g1, 1, none⟩ = some (.int .u32 x.mb) ∧ U.cell? ⟨g1, 2, none⟩ = some (.int .i64 x.sd) ∧ U.cell? ⟨g1, 3, none⟩ = some (.int .i64 x.ty) ∧ U.cell? ⟨g1, 4, none⟩ = some (.int .i64 x.pr) ∧ U.cell? ⟨g1, 5, none⟩ = some (.int .u64 x.qt) ∧ U.cell? ⟨g2, 0, none⟩ = some (.int .u64 y.id) ∧ U.cell? ⟨g2, 1, none⟩ = some (.int .u32 y.mb) ∧ U.cell? ⟨g2, 2, none⟩ = some (.int .i64 y.sd) ∧ U.cell? ⟨g2, 3, none⟩ = some (.int .i64 y.ty) ∧ U.cell? ⟨g2, 4, none⟩ = some (.int .i64 y.pr) ∧ U.cell? ⟨g2, 5, none⟩ = some (.int .u64 y.qt))) (fun U h => by obtain ⟨h0, h1, h2, h3, h4, h5, h6, h7, h8, h9, h10, h11, h12, h13, h14⟩ := h; exact ⟨h0, h1, h2, h3, h4, h5, h6, h7, h8⟩) _ _ _ _ ?_
              have hHeld : (fun U => U.cell? ⟨R, 0, none⟩ = some (.int .i64 r) ∧ U.cell? ⟨R, 1, none⟩ = some (.int .i64 m) ∧ U.cell? ⟨R, 2, none⟩ = some (.slice pL nL cL) ∧ U.cell? ⟨g1, 0, none⟩ = some (.int .u64 x.id) ∧ U.cell? ⟨g1, 1, none⟩ = some (.int .u32 x.mb) ∧ U.cell? ⟨g1, 2, none⟩ = some (.int .i64 x.sd) ∧ U.cell? ⟨g1, 3, none⟩ = some (.int .i64 x.ty) ∧ U.cell? ⟨g1, 4, none⟩ = some (.int .i64 x.pr) ∧ U.cell? ⟨g1, 5, none⟩ = some (.int .u64 x.qt) ∧ U.cell? ⟨g2, 0, none⟩ = some (.int .u64 y.id) ∧ U.cell? ⟨g2, 1, none⟩ = some (.int .u32 y.mb) ∧ U.cell? ⟨g2, 2, none⟩ = some (.int .i64 y.sd) ∧ U.cell? ⟨g2, 3, none⟩ = some (.int .i64 y.ty) ∧ U.cell? ⟨g2, 4, none⟩ = some (.int .i64 y.pr) ∧ U.cell? ⟨g2, 5, none⟩ = some (.int .u64 y.qt)) X202 := by dsimp only; obtain ⟨s0, s1, s2⟩ := row3 r203.out; obtain ⟨u0, u1, u2, u3, u4, u5⟩ := MX199.out.at r205.out; obtain ⟨v0, v1', v2, v3, v4, v5⟩ := MX202.out.at EX202.out; exact ⟨s0, s1, s2, u0, u1, u2, u3, u4, u5, v0, v1', v2, v3, v4, v5⟩
              dsimp only at hHeld
              refine' wpAnyH_take (i := 6) (oi := _) (v := _) rfl (by kernel_rfl) (by kernel_rfl) (by kernel_rfl) (fun _ _ _ h => h) (Or.inl ⟨by kernel_rfl, ?_⟩) (by assumption) ?_
              rotate_left
              · (intro w hSw; (try dsimp only at hSw); go_simp; try (with_reducible rfl))
              try simp only [List.getElem_toArray, List.getElem_cons_succ, List.getElem_cons_zero, Act.put, List.setIfInBounds_toArray, List.set_cons_zero, List.set_cons_succ]
              refine' wpAnyH_take (i := 7) (oi := _) (v := _) rfl (by kernel_rfl) (by kernel_rfl) (by kernel_rfl) (fun _ _ _ h => h) (Or.inl ⟨by kernel_rfl, ?_⟩) (by assumption) ?_
              rotate_left
              · (intro w hSw; (try dsimp only at hSw); go_simp; try (with_reducible rfl))
              try simp only [List.getElem_toArray, List.getElem_cons_succ, List.getElem_cons_zero, Act.put, List.setIfInBounds_toArray, List.set_cons_zero, List.set_cons_succ]
              refine wpAnyH_ready (rs := [8]) (by kernel_rfl) (by simp) ?_
              refine (AllReadyH.cons (o := _) rfl (fun K hK => ?_) AllReadyH.nil)
              go_simp
              obtain ⟨X206, hX206⟩ : ∃ X, X202.alloc (.cells #[.int .u64 0, .int .u32 0, .int .i64 0, .int .i64 0, .int .i64 0, .int .u64 0] 35) = X := ⟨_, rfl⟩
              have bX206 : Below X202.heap.size X202 X206 := by rw [← hX206]; exact ball _ _
              have r208 := hid (row_on r203.out bX206)
              have r209 := hid (row_on r204.out bX206)
              have r210 := hid (row_on r205.out bX206)
              have r211 := hid (row_on EX202.out bX206)
              have BX206 := hid (btr BX202.out bX206)
              have zX206 : X206.heap[X202.heap.size]? = some (.cells #[.int .u64 0, .int .u32 0, .int .i64 0, .int .i64 0, .int .i64 0, .int .u64 0] 35 (0, 0)) := by rw [← hX206]; exact World.alloc_heap_new _ _
              have yg207 := BX202.out.size
              obtain ⟨g207, hg207⟩ : ∃ g, X202.heap.size = g := ⟨_, rfl⟩
              have ne_a_R : g207 ≠ R := by have := row_lt r203.out; omega
              have ne_a_b : g207 ≠ g197 := by have := row_lt r204.out; omega
              have ne_a_g1 : g207 ≠ g1 := by have := row_lt r205.out; omega
              have ne_a_g2 : g207 ≠ g2 := by have := row_lt EX202.out; omega
              rw [hg207] at zX206 yg207
              have ZX206 := hid zX206
              rw [hX206, hg207]
              clear hX206 hg207 zX206 bX206
              refine hK.out _ _ ?_ (fun hHeld => ?_)
              · (try dsimp only); obtain ⟨s0, s1, s2⟩ := row3 r208.out; obtain ⟨u0, u1, u2, u3, u4, u5⟩ := MX199.out.at r210.out; obtain ⟨v0, v1', v2, v3, v4, v5⟩ := MX202.out.at r211.out; exact ⟨s0, s1, s2, u0, u1, u2, u3, u4, u5, v0, v1', v2, v3, v4, v5⟩
              clear hK K
              try simp only [List.getElem_toArray, List.getElem_cons_succ, List.getElem_cons_zero, Act.put, List.setIfInBounds_toArray, List.set_cons_zero, List.set_cons_succ]
              refine wpAnyH_ready (rs := [10]) (by kernel_rfl) (by simp) ?_
              refine AllReadyH.cons (o := _) rfl (fun KK hK => ?_) AllReadyH.nil
              refine step_store_row (by rfl) 35 (.tmp 10) (.tmp 29) (by rfl) g207 #[.int .u64 x.id, .int .u32 x.mb, .int .i64 x.sd, .int .i64 x.ty, .int .i64 x.pr, .int .u64 x.qt] (by rfl) (by rfl) 35 _ ZX206.out AIx.out ASx.out AAx.out ?_
              obtain ⟨Y212, hY212⟩ : ∃ Y, X206.setRow g207 #[.int .u64 x.id, .int .u32 x.mb, .int .i64 x.sd, .int .i64 x.ty, .int .i64 x.pr, .int .u64 x.qt] = Y := ⟨_, rfl⟩
              have KY212 := hid (show Kp (fun j => j = g207) X206 Y212 from by rw [← hY212]; exact setRow_kp _ _ _)
              have AY212 := hid (show Y212.heap[g207]? = some (.cells #[.int .u64 x.id, .int .u32 x.mb, .int .i64 x.sd, .int .i64 x.ty, .int .i64 x.pr, .int .u64 x.qt] 35 (0, 0)) from by rw [← hY212]; exact setRow_heap X206 g207 _ _ 35 (0, 0) ZX206.out)
              have BY212 := hid (show Below wr.heap.size wr Y212 from by rw [← hY212]; exact setRow_below BX206.out yg207)
              have r213 := hid (KY212.out.row r208.out (fun e => ne_a_R e.symm))
              have r214 := hid (KY212.out.row r210.out (fun e => ne_a_g1 e.symm))
              have r215 := hid (KY212.out.row r211.out (fun e => ne_a_g2 e.symm))
              have r216 := hid (KY212.out.row r209.out (fun e => ne_a_b e.symm))
              rw [hY212]
              refine hK.out _ _ ?_ (fun hHeld => ?_)
              · (try dsimp only); obtain ⟨s0, s1, s2⟩ := row3 r213.out; obtain ⟨u0, u1, u2, u3, u4, u5⟩ := MX199.out.at r214.out; obtain ⟨v0, v1', v2, v3, v4, v5⟩ := MX202.out.at r215.out; exact ⟨s0, s1, s2, u0, u1, u2, u3, u4, u5, v0, v1', v2, v3, v4, v5⟩
              clear hK hY212
              try simp only [List.getElem_toArray, List.getElem_cons_succ, List.getElem_cons_zero, Act.put, List.setIfInBounds_toArray, List.set_cons_zero, List.set_cons_succ]
              refine wpAnyH_ready (rs := [11]) (by kernel_rfl) (by simp) ?_
              refine AllReadyH.cons (o := _) rfl (fun KK hK => ?_) AllReadyH.nil
              refine step_store_row (by rfl) 35 (.tmp 11) (.tmp 33) (by rfl) g197 #[.int .u64 y.id, .int .u32 y.mb, .int .i64 y.sd, .int .i64 y.ty, .int .i64 y.pr, .int .u64 y.qt] (by rfl) (by rfl) 35 _ r216.out AIy.out ASy.out AAy.out ?_
              obtain ⟨Y217, hY217⟩ : ∃ Y, Y212.setRow g197 #[.int .u64 y.id, .int .u32 y.mb, .int .i64 y.sd, .int .i64 y.ty, .int .i64 y.pr, .int .u64 y.qt] = Y := ⟨_, rfl⟩
              have KY217 := hid (show Kp (fun j => j = g197) Y212 Y217 from by rw [← hY217]; exact setRow_kp _ _ _)
              have AY217 := hid (show Y217.heap[g197]? = some (.cells #[.int .u64 y.id, .int .u32 y.mb, .int .i64 y.sd, .int .i64 y.ty, .int .i64 y.pr, .int .u64 y.qt] 35 (0, 0)) from by rw [← hY217]; exact setRow_heap Y212 g197 _ _ 35 (0, 0) r216.out)
              have BY217 := hid (show Below wr.heap.size wr Y217 from by rw [← hY217]; exact setRow_below BY212.out yg197)
              have r218 := hid (KY217.out.row r213.out (fun e => ne_b_R e.symm))
              have r219 := hid (KY217.out.row r214.out (fun e => ne_b_g1 e.symm))
              have r220 := hid (KY217.out.row r215.out (fun e => ne_b_g2 e.symm))
              have r_a := hid (KY217.out.row AY212.out (fun e => ne_a_b e))
              rw [hY217]
              refine hK.out _ _ ?_ (fun hHeld => ?_)
              · (try dsimp only); obtain ⟨s0, s1, s2⟩ := row3 r218.out; obtain ⟨u0, u1, u2, u3, u4, u5⟩ := MX199.out.at r219.out; obtain ⟨v0, v1', v2, v3, v4, v5⟩ := MX202.out.at r220.out; exact ⟨s0, s1, s2, u0, u1, u2, u3, u4, u5, v0, v1', v2, v3, v4, v5⟩
              clear hK hY217
              try simp only [List.getElem_toArray, List.getElem_cons_succ, List.getElem_cons_zero, Act.put, List.setIfInBounds_toArray, List.set_cons_zero, List.set_cons_succ]
              refine wpAnyH_done (by kernel_rfl) ?_ _
              exact ⟨(g207, g197, g1, c1, g2, c2), by rfl, BY217, hid yg207, hid yg197, r_a, AY217, hid ne_a_b⟩
            · go_simp
              obtain ⟨X221, hX221⟩ : ∃ X, X199.alloc (.cells #[.int .u64 0, .int .u32 0, .int .i64 0, .int .i64 0, .int .i64 0, .int .u64 0] 35) = X := ⟨_, rfl⟩
              have bX221 : Below X199.heap.size X199 X221 := by rw [← hX221]; exact ball _ _
              have r223 := hid (row_on r200.out bX221)
              have r224 := hid (row_on r201.out bX221)
              have r225 := hid (row_on EX199.out bX221)
              have BX221 := hid (btr BX199.out bX221)
              have zX221 : X221.heap[X199.heap.size]? = some (.cells #[.int .u64 0, .int .u32 0, .int .i64 0, .int .i64 0, .int .i64 0, .int .u64 0] 35 (0, 0)) := by rw [← hX221]; exact World.alloc_heap_new _ _
              have yg222 := BX199.out.size
              obtain ⟨g222, hg222⟩ : ∃ g, X199.heap.size = g := ⟨_, rfl⟩
              have ne_a_R : g222 ≠ R := by have := row_lt r200.out; omega
              have ne_a_b : g222 ≠ g197 := by have := row_lt r201.out; omega
              have ne_a_g1 : g222 ≠ g1 := by have := row_lt EX199.out; omega
              rw [hg222] at zX221 yg222
              have ZX221 := hid zX221
              rw [hX221, hg222]
              clear hX221 hg222 zX221 bX221
              refine hK.out _ _ ?_ (fun hHeld => ?_)
              · (try dsimp only); obtain ⟨s0, s1, s2⟩ := row3 r223.out; obtain ⟨u0, u1, u2, u3, u4, u5⟩ := MX199.out.at r225.out; exact ⟨s0, s1, s2, u0, u1, u2, u3, u4, u5⟩
              clear hK K
              try simp only [List.getElem_toArray, List.getElem_cons_succ, List.getElem_cons_zero, Act.put, List.setIfInBounds_toArray, List.set_cons_zero, List.set_cons_succ]
              refine wpAnyH_ready (rs := [5]) (by kernel_rfl) (by simp) ?_
              refine (AllReadyH.cons (o := _) rfl (fun K hK => ?_) AllReadyH.nil)
              go_simp
              go_at_call 25
              with_reducible refine (C2.out X221 BX221.out).mono ?_
              rintro e X226 ⟨g2, c2, cu2, rfl, DX226, GX226, EX226, MX226⟩
              have r227 := hid (row_on r223.out DX226.out)
              have r228 := hid (row_on r224.out DX226.out)
              have r229 := hid (row_on r225.out DX226.out)
              have r230 := hid (row_on ZX221.out DX226.out)
              have BX226 := hid (btr BX221.out DX226.out)
              have ne_b_g2 : g197 ≠ g2 := by have := row_lt r224.out; have := GX226.out; omega
              have ne_a_g2 : g222 ≠ g2 := by have := row_lt ZX221.out; have := GX226.out; omega
              (try go_wp2_with fail)
              refine hK.out _ _ ?_ (fun hHeld => ?_)
              · (try dsimp only); obtain ⟨s0, s1, s2⟩ := row3 r227.out; obtain ⟨u0, u1, u2, u3, u4, u5⟩ := MX199.out.at r229.out; exact ⟨s0, s1, s2, u0, u1, u2, u3, u4, u5⟩
              clear hK K hHeld
              try simp only [List.getElem_toArray, List.getElem_cons_succ, List.getElem_cons_zero, Act.put, List.setIfInBounds_toArray, List.set_cons_zero, List.set_cons_succ]
              refine wpAnyH_more (S' := (fun U => U.cell? ⟨R, 0, none⟩ = some (.int .i64 r) ∧ U.cell? ⟨R, 1, none⟩ = some (.int .i64 m) ∧ U.cell? ⟨R, 2, none⟩ = some (.slice pL nL cL) ∧ U.cell? ⟨g1, 0, none⟩ = some (.int .u64 x.id) ∧ U.cell? ⟨g1, 1, none⟩ = some (.int .u32 x.mb) ∧ U.cell? ⟨g1, 2, none⟩ = some (.int .i64 x.sd) ∧ U.cell? ⟨g1, 3, none⟩ = some (.int .i64 x.ty) ∧ U.cell? ⟨g1, 4, none⟩ = some (.int .i64 x.pr) ∧ U.cell? ⟨g1, 5, none⟩ = some (.int .u64 x.qt) ∧ U.cell? ⟨g2, 0, none⟩ = some (.int .u64 y.id) ∧ U.cell? ⟨g2, 1, none⟩ = some (.int .u32 y.mb) ∧ U.cell? ⟨g2, 2, none⟩ = some (.int .i64 y.sd) ∧ U.cell? ⟨g2, 3, none⟩ = some (.int .i64 y.ty) ∧ U.cell? ⟨g2, 4, none⟩ = some (.int .i64 y.pr) ∧ U.cell? ⟨g2, 5, none⟩ = some (.int .u64 y.qt))) (fun U h => by obtain ⟨h0, h1, h2, h3, h4, h5, h6, h7, h8, h9, h10, h11, h12, h13, h14⟩ := h; exact ⟨h0, h1, h2, h3, h4, h5, h6, h7, h8⟩) _ _ _ _ ?_
              have hHeld : (fun U => U.cell? ⟨R, 0, none⟩ = some (.int .i64 r) ∧ U.cell? ⟨R, 1, none⟩ = some (.int .i64 m) ∧ U.cell? ⟨R, 2, none⟩ = some (.slice pL nL cL) ∧ U.cell? ⟨g1, 0, none⟩ = some (.int .u64 x.id) ∧ U.cell? ⟨g1, 1, none⟩ = some (.int .u32 x.mb) ∧ U.cell? ⟨g1, 2, none⟩ = some (.int .i64 x.sd) ∧ U.cell? ⟨g1, 3, none⟩ = some (.int .i64 x.ty) ∧ U.cell? ⟨g1, 4, none⟩ = some (.int .i64 x.pr) ∧ U.cell? ⟨g1, 5, none⟩ = some (.int .u64 x.qt) ∧ U.cell? ⟨g2, 0, none⟩ = some (.int .u64 y.id) ∧ U.cell? ⟨g2, 1, none⟩ = some (.int .u32 y.mb) ∧ U.cell? ⟨g2, 2, none⟩ = some (.int .i64 y.sd) ∧ U.cell? ⟨g2, 3, none⟩ = some (.int .i64 y.ty) ∧ U.cell? ⟨g2, 4, none⟩ = some (.int .i64 y.pr) ∧ U.cell? ⟨g2, 5, none⟩ = some (.int .u64 y.qt)) X226 := by dsimp only; obtain ⟨s0, s1, s2⟩ := row3 r227.out; obtain ⟨u0, u1, u2, u3, u4, u5⟩ := MX199.out.at r229.out; obtain ⟨v0, v1', v2, v3, v4, v5⟩ := MX226.out.at EX226.out; exact ⟨s0, s1, s2, u0, u1, u2, u3, u4, u5, v0, v1', v2, v3, v4, v5⟩
              dsimp only at hHeld
              refine' wpAnyH_take (i := 6) (oi := _) (v := _) rfl (by kernel_rfl) (by kernel_rfl) (by kernel_rfl) (fun _ _ _ h => h) (Or.inl ⟨by kernel_rfl, ?_⟩) (by assumption) ?_
              rotate_left
              · (intro w hSw; (try dsimp only at hSw); go_simp; try (with_reducible rfl))
              try simp only [List.getElem_toArray, List.getElem_cons_succ, List.getElem_cons_zero, Act.put, List.setIfInBounds_toArray, List.set_cons_zero, List.set_cons_succ]
              refine' wpAnyH_take (i := 7) (oi := _) (v := _) rfl (by kernel_rfl) (by kernel_rfl) (by kernel_rfl) (fun _ _ _ h => h) (Or.inl ⟨by kernel_rfl, ?_⟩) (by assumption) ?_
              rotate_left
              · (intro w hSw; (try dsimp only at hSw); go_simp; try (with_reducible rfl))
              try simp only [List.getElem_toArray, List.getElem_cons_succ, List.getElem_cons_zero, Act.put, List.setIfInBounds_toArray, List.set_cons_zero, List.set_cons_succ]
              refine wpAnyH_ready (rs := [10]) (by kernel_rfl) (by simp) ?_
              refine AllReadyH.cons (o := _) rfl (fun KK hK => ?_) AllReadyH.nil
              refine step_store_row (by rfl) 35 (.tmp 10) (.tmp 29) (by rfl) g222 #[.int .u64 x.id, .int .u32 x.mb, .int .i64 x.sd, .int .i64 x.ty, .int .i64 x.pr, .int .u64 x.qt] (by rfl) (by rfl) 35 _ r230.out AIx.out ASx.out AAx.out ?_
              obtain ⟨Y231, hY231⟩ : ∃ Y, X226.setRow g222 #[.int .u64 x.id, .int .u32 x.mb, .int .i64 x.sd, .int .i64 x.ty, .int .i64 x.pr, .int .u64 x.qt] = Y := ⟨_, rfl⟩
              have KY231 := hid (show Kp (fun j => j = g222) X226 Y231 from by rw [← hY231]; exact setRow_kp _ _ _)
              have AY231 := hid (show Y231.heap[g222]? = some (.cells #[.int .u64 x.id, .int .u32 x.mb, .int .i64 x.sd, .int .i64 x.ty, .int .i64 x.pr, .int .u64 x.qt] 35 (0, 0)) from by rw [← hY231]; exact setRow_heap X226 g222 _ _ 35 (0, 0) r230.out)
              have BY231 := hid (show Below wr.heap.size wr Y231 from by rw [← hY231]; exact setRow_below BX226.out yg222)
              have r232 := hid (KY231.out.row r227.out (fun e => ne_a_R e.symm))
              have r233 := hid (KY231.out.row r229.out (fun e => ne_a_g1 e.symm))
              have r234 := hid (KY231.out.row EX226.out (fun e => ne_a_g2 e.symm))
              have r235 := hid (KY231.out.row r228.out (fun e => ne_a_b e.symm))
              rw [hY231]
              refine hK.out _ _ ?_ (fun hHeld => ?_)
              · (try dsimp only); obtain ⟨s0, s1, s2⟩ := row3 r232.out; obtain ⟨u0, u1, u2, u3, u4, u5⟩ := MX199.out.at r233.out; obtain ⟨v0, v1', v2, v3, v4, v5⟩ := MX226.out.at r234.out; exact ⟨s0, s1, s2, u0, u1, u2, u3, u4, u5, v0, v1', v2, v3, v4, v5⟩
              clear hK hY231
              try simp only [List.getElem_toArray, List.getElem_cons_succ, List.getElem_cons_zero, Act.put, List.setIfInBounds_toArray, List.set_cons_zero, List.set_cons_succ]
              refine wpAnyH_ready (rs := [11]) (by kernel_rfl) (by simp) ?_
              refine AllReadyH.cons (o := _) rfl (fun KK hK => ?_) AllReadyH.nil
              refine step_store_row (by rfl) 35 (.tmp 11) (.tmp 33) (by rfl) g197 #[.int .u64 y.id, .int .u32 y.mb, .int .i64 y.sd, .int .i64 y.ty, .int .i64 y.pr, .int .u64 y.qt] (by rfl) (by rfl) 35 _ r235.out AIy.out ASy.out AAy.out ?_
              obtain ⟨Y236, hY236⟩ : ∃ Y, Y231.setRow g197 #[.int .u64 y.id, .int .u32 y.mb, .int .i64 y.sd, .int .i64 y.ty, .int .i64 y.pr, .int .u64 y.qt] = Y := ⟨_, rfl⟩
              have KY236 := hid (show Kp (fun j => j = g197) Y231 Y236 from by rw [← hY236]; exact setRow_kp _ _ _)
              have AY236 := hid (show Y236.heap[g197]? = some (.cells #[.int .u64 y.id, .int .u32 y.mb, .int .i64 y.sd, .int .i64 y.ty, .int .i64 y.pr, .int .u64 y.qt] 35 (0, 0)) from by rw [← hY236]; exact setRow_heap Y231 g197 _ _ 35 (0, 0) r235.out)
              have BY236 := hid (show Below wr.heap.size wr Y236 from by rw [← hY236]; exact setRow_below BY231.out yg197)
              have r237 := hid (KY236.out.row r232.out (fun e => ne_b_R e.symm))
              have r238 := hid (KY236.out.row r233.out (fun e => ne_b_g1 e.symm))
              have r239 := hid (KY236.out.row r234.out (fun e => ne_b_g2 e.symm))
              have r_a := hid (KY236.out.row AY231.out (fun e => ne_a_b e))
              rw [hY236]
              refine hK.out _ _ ?_ (fun hHeld => ?_)
              · (try dsimp only); obtain ⟨s0, s1, s2⟩ := row3 r237.out; obtain ⟨u0, u1, u2, u3, u4, u5⟩ := MX199.out.at r238.out; obtain ⟨v0, v1', v2, v3, v4, v5⟩ := MX226.out.at r239.out; exact ⟨s0, s1, s2, u0, u1, u2, u3, u4, u5, v0, v1', v2, v3, v4, v5⟩
              clear hK hY236
              try simp only [List.getElem_toArray, List.getElem_cons_succ, List.getElem_cons_zero, Act.put, List.setIfInBounds_toArray, List.set_cons_zero, List.set_cons_succ]
              refine wpAnyH_done (by kernel_rfl) ?_ _
              exact ⟨(g222, g197, g1, c1, g2, c2), by rfl, BY236, hid yg222, hid yg197, r_a, AY236, hid ne_a_b⟩
          · go_simp
            obtain ⟨X240, hX240⟩ : ∃ X, X196.alloc (.cells #[.int .u64 0, .int .u32 0, .int .i64 0, .int .i64 0, .int .i64 0, .int .u64 0] 35) = X := ⟨_, rfl⟩
            have bX240 : Below X196.heap.size X196 X240 := by rw [← hX240]; exact ball _ _
            have r242 := hid (row_on r198.out bX240)
            have r243 := hid (row_on ZX196.out bX240)
            have BX240 := hid (btr BX196.out bX240)
            have zX240 : X240.heap[X196.heap.size]? = some (.cells #[.int .u64 0, .int .u32 0, .int .i64 0, .int .i64 0, .int .i64 0, .int .u64 0] 35 (0, 0)) := by rw [← hX240]; exact World.alloc_heap_new _ _
            have yg241 := BX196.out.size
            obtain ⟨g241, hg241⟩ : ∃ g, X196.heap.size = g := ⟨_, rfl⟩
            have ne_a_R : g241 ≠ R := by have := row_lt r198.out; omega
            have ne_a_b : g241 ≠ g197 := by have := row_lt ZX196.out; omega
            rw [hg241] at zX240 yg241
            have ZX240 := hid zX240
            rw [hX240, hg241]
            clear hX240 hg241 zX240 bX240
            refine hK.out _ _ ?_ (fun hHeld => ?_)
            · (try dsimp only); obtain ⟨s0, s1, s2⟩ := row3 r242.out; exact ⟨s0, s1, s2⟩
            clear hK K
            try simp only [List.getElem_toArray, List.getElem_cons_succ, List.getElem_cons_zero, Act.put, List.setIfInBounds_toArray, List.set_cons_zero, List.set_cons_succ]
            refine wpAnyH_ready (rs := [1]) (by kernel_rfl) (by simp) ?_
            refine (AllReadyH.cons (o := _) rfl (fun K hK => ?_) AllReadyH.nil)
            go_simp
            go_at_call 25
            with_reducible refine (C1.out X240 BX240.out).mono ?_
            rintro e X244 ⟨g1, c1, cu1, rfl, DX244, GX244, EX244, MX244⟩
            have r245 := hid (row_on r242.out DX244.out)
            have r246 := hid (row_on r243.out DX244.out)
            have r247 := hid (row_on ZX240.out DX244.out)
            have BX244 := hid (btr BX240.out DX244.out)
            have ne_b_g1 : g197 ≠ g1 := by have := row_lt r243.out; have := GX244.out; omega
            have ne_a_g1 : g241 ≠ g1 := by have := row_lt ZX240.out; have := GX244.out; omega
            (try go_wp2_with fail)
            refine hK.out _ _ ?_ (fun hHeld => ?_)
            · (try dsimp only); obtain ⟨s0, s1, s2⟩ := row3 r245.out; exact ⟨s0, s1, s2⟩
            clear hK K hHeld
            try simp only [List.getElem_toArray, List.getElem_cons_succ, List.getElem_cons_zero, Act.put, List.setIfInBounds_toArray, List.set_cons_zero, List.set_cons_succ]
            refine wpAnyH_more (S' := (fun U => U.cell? ⟨R, 0, none⟩ = some (.int .i64 r) ∧ U.cell? ⟨R, 1, none⟩ = some (.int .i64 m) ∧ U.cell? ⟨R, 2, none⟩ = some (.slice pL nL cL) ∧ U.cell? ⟨g1, 0, none⟩ = some (.int .u64 x.id) ∧ U.cell? ⟨g1, 1, none⟩ = some (.int .u32 x.mb) ∧ U.cell? ⟨g1, 2, none⟩ = some (.int .i64 x.sd) ∧ U.cell? ⟨g1, 3, none⟩ = some (.int .i64 x.ty) ∧ U.cell? ⟨g1, 4, none⟩ = some (.int .i64 x.pr) ∧ U.cell? ⟨g1, 5, none⟩ = some (.int .u64 x.qt))) (fun U h => by obtain ⟨h0, h1, h2, h3, h4, h5, h6, h7, h8⟩ := h; exact ⟨h0, h1, h2⟩) _ _ _ _ ?_
            have hHeld : (fun U => U.cell? ⟨R, 0, none⟩ = some (.int .i64 r) ∧ U.cell? ⟨R, 1, none⟩ = some (.int .i64 m) ∧ U.cell? ⟨R, 2, none⟩ = some (.slice pL nL cL) ∧ U.cell? ⟨g1, 0, none⟩ = some (.int .u64 x.id) ∧ U.cell? ⟨g1, 1, none⟩ = some (.int .u32 x.mb) ∧ U.cell? ⟨g1, 2, none⟩ = some (.int .i64 x.sd) ∧ U.cell? ⟨g1, 3, none⟩ = some (.int .i64 x.ty) ∧ U.cell? ⟨g1, 4, none⟩ = some (.int .i64 x.pr) ∧ U.cell? ⟨g1, 5, none⟩ = some (.int .u64 x.qt)) X244 := by dsimp only; obtain ⟨s0, s1, s2⟩ := row3 r245.out; obtain ⟨u0, u1, u2, u3, u4, u5⟩ := MX244.out.at EX244.out; exact ⟨s0, s1, s2, u0, u1, u2, u3, u4, u5⟩
            dsimp only at hHeld
            refine' wpAnyH_take (i := 2) (oi := _) (v := _) rfl (by kernel_rfl) (by kernel_rfl) (by kernel_rfl) (fun _ _ _ h => h) (Or.inl ⟨by kernel_rfl, ?_⟩) (by assumption) ?_
            rotate_left
            · (intro w hSw; (try dsimp only at hSw); go_simp; try (with_reducible rfl))
            try simp only [List.getElem_toArray, List.getElem_cons_succ, List.getElem_cons_zero, Act.put, List.setIfInBounds_toArray, List.set_cons_zero, List.set_cons_succ]
            refine' wpAnyH_take (i := 3) (oi := _) (v := _) rfl (by kernel_rfl) (by kernel_rfl) (by kernel_rfl) (fun _ _ _ h => h) (Or.inl ⟨by kernel_rfl, ?_⟩) (by assumption) ?_
            rotate_left
            · (intro w hSw; (try dsimp only at hSw); go_simp; try (with_reducible rfl))
            try simp only [List.getElem_toArray, List.getElem_cons_succ, List.getElem_cons_zero, Act.put, List.setIfInBounds_toArray, List.set_cons_zero, List.set_cons_succ]
            refine wpAnyH_ready (rs := [5]) (by kernel_rfl) (by simp) ?_
            refine (AllReadyH.cons (o := _) rfl (fun K hK => ?_) AllReadyH.nil)
            go_simp
            go_at_call 25
            with_reducible refine (C2.out X244 BX244.out).mono ?_
            rintro e X248 ⟨g2, c2, cu2, rfl, DX248, GX248, EX248, MX248⟩
            have r249 := hid (row_on r245.out DX248.out)
            have r250 := hid (row_on r246.out DX248.out)
            have r251 := hid (row_on r247.out DX248.out)
            have r252 := hid (row_on EX244.out DX248.out)
            have BX248 := hid (btr BX244.out DX248.out)
            have ne_b_g2 : g197 ≠ g2 := by have := row_lt r246.out; have := GX248.out; omega
            have ne_a_g2 : g241 ≠ g2 := by have := row_lt r247.out; have := GX248.out; omega
            (try go_wp2_with fail)
            refine hK.out _ _ ?_ (fun hHeld => ?_)
            · (try dsimp only); obtain ⟨s0, s1, s2⟩ := row3 r249.out; obtain ⟨u0, u1, u2, u3, u4, u5⟩ := MX244.out.at r252.out; exact ⟨s0, s1, s2, u0, u1, u2, u3, u4, u5⟩
            clear hK K hHeld
            try simp only [List.getElem_toArray, List.getElem_cons_succ, List.getElem_cons_zero, Act.put, List.setIfInBounds_toArray, List.set_cons_zero, List.set_cons_succ]
            refine wpAnyH_more (S' := (fun U => U.cell? ⟨R, 0, none⟩ = some (.int .i64 r) ∧ U.cell? ⟨R, 1, none⟩ = some (.int .i64 m) ∧ U.cell? ⟨R, 2, none⟩ = some (.slice pL nL cL) ∧ U.cell? ⟨g1, 0, none⟩ = some (.int .u64 x.id) ∧ U.cell? ⟨g1, 1, none⟩ = some (.int .u32 x.mb) ∧ U.cell? ⟨g1, 2, none⟩ = some (.int .i64 x.sd) ∧ U.cell? ⟨g1, 3, none⟩ = some (.int .i64 x.ty) ∧ U.cell? ⟨g1, 4, none⟩ = some (.int .i64 x.pr) ∧ U.cell? ⟨g1, 5, none⟩ = some (.int .u64 x.qt) ∧ U.cell? ⟨g2, 0, none⟩ = some (.int .u64 y.id) ∧ U.cell? ⟨g2, 1, none⟩ = some (.int .u32 y.mb) ∧ U.cell? ⟨g2, 2, none⟩ = some (.int .i64 y.sd) ∧ U.cell? ⟨g2, 3, none⟩ = some (.int .i64 y.ty) ∧ U.cell? ⟨g2, 4, none⟩ = some (.int .i64 y.pr) ∧ U.cell? ⟨g2, 5, none⟩ = some (.int .u64 y.qt))) (fun U h => by obtain ⟨h0, h1, h2, h3, h4, h5, h6, h7, h8, h9, h10, h11, h12, h13, h14⟩ := h; exact ⟨h0, h1, h2, h3, h4, h5, h6, h7, h8⟩) _ _ _ _ ?_
            have hHeld : (fun U => U.cell? ⟨R, 0, none⟩ = some (.int .i64 r) ∧ U.cell? ⟨R, 1, none⟩ = some (.int .i64 m) ∧ U.cell? ⟨R, 2, none⟩ = some (.slice pL nL cL) ∧ U.cell? ⟨g1, 0, none⟩ = some (.int .u64 x.id) ∧ U.cell? ⟨g1, 1, none⟩ = some (.int .u32 x.mb) ∧ U.cell? ⟨g1, 2, none⟩ = some (.int .i64 x.sd) ∧ U.cell? ⟨g1, 3, none⟩ = some (.int .i64 x.ty) ∧ U.cell? ⟨g1, 4, none⟩ = some (.int .i64 x.pr) ∧ U.cell? ⟨g1, 5, none⟩ = some (.int .u64 x.qt) ∧ U.cell? ⟨g2, 0, none⟩ = some (.int .u64 y.id) ∧ U.cell? ⟨g2, 1, none⟩ = some (.int .u32 y.mb) ∧ U.cell? ⟨g2, 2, none⟩ = some (.int .i64 y.sd) ∧ U.cell? ⟨g2, 3, none⟩ = some (.int .i64 y.ty) ∧ U.cell? ⟨g2, 4, none⟩ = some (.int .i64 y.pr) ∧ U.cell? ⟨g2, 5, none⟩ = some (.int .u64 y.qt)) X248 := by dsimp only; obtain ⟨s0, s1, s2⟩ := row3 r249.out; obtain ⟨u0, u1, u2, u3, u4, u5⟩ := MX244.out.at r252.out; obtain ⟨v0, v1', v2, v3, v4, v5⟩ := MX248.out.at EX248.out; exact ⟨s0, s1, s2, u0, u1, u2, u3, u4, u5, v0, v1', v2, v3, v4, v5⟩
            dsimp only at hHeld
            refine' wpAnyH_take (i := 6) (oi := _) (v := _) rfl (by kernel_rfl) (by kernel_rfl) (by kernel_rfl) (fun _ _ _ h => h) (Or.inl ⟨by kernel_rfl, ?_⟩) (by assumption) ?_
            rotate_left
            · (intro w hSw; (try dsimp only at hSw); go_simp; try (with_reducible rfl))
            try simp only [List.getElem_toArray, List.getElem_cons_succ, List.getElem_cons_zero, Act.put, List.setIfInBounds_toArray, List.set_cons_zero, List.set_cons_succ]
            refine' wpAnyH_take (i := 7) (oi := _) (v := _) rfl (by kernel_rfl) (by kernel_rfl) (by kernel_rfl) (fun _ _ _ h => h) (Or.inl ⟨by kernel_rfl, ?_⟩) (by assumption) ?_
            rotate_left
            · (intro w hSw; (try dsimp only at hSw); go_simp; try (with_reducible rfl))
            try simp only [List.getElem_toArray, List.getElem_cons_succ, List.getElem_cons_zero, Act.put, List.setIfInBounds_toArray, List.set_cons_zero, List.set_cons_succ]
            refine wpAnyH_ready (rs := [10]) (by kernel_rfl) (by simp) ?_
            refine AllReadyH.cons (o := _) rfl (fun KK hK => ?_) AllReadyH.nil
            refine step_store_row (by rfl) 35 (.tmp 10) (.tmp 29) (by rfl) g241 #[.int .u64 x.id, .int .u32 x.mb, .int .i64 x.sd, .int .i64 x.ty, .int .i64 x.pr, .int .u64 x.qt] (by rfl) (by rfl) 35 _ r251.out AIx.out ASx.out AAx.out ?_
            obtain ⟨Y253, hY253⟩ : ∃ Y, X248.setRow g241 #[.int .u64 x.id, .int .u32 x.mb, .int .i64 x.sd, .int .i64 x.ty, .int .i64 x.pr, .int .u64 x.qt] = Y := ⟨_, rfl⟩
            have KY253 := hid (show Kp (fun j => j = g241) X248 Y253 from by rw [← hY253]; exact setRow_kp _ _ _)
            have AY253 := hid (show Y253.heap[g241]? = some (.cells #[.int .u64 x.id, .int .u32 x.mb, .int .i64 x.sd, .int .i64 x.ty, .int .i64 x.pr, .int .u64 x.qt] 35 (0, 0)) from by rw [← hY253]; exact setRow_heap X248 g241 _ _ 35 (0, 0) r251.out)
            have BY253 := hid (show Below wr.heap.size wr Y253 from by rw [← hY253]; exact setRow_below BX248.out yg241)
            have r254 := hid (KY253.out.row r249.out (fun e => ne_a_R e.symm))
            have r255 := hid (KY253.out.row r252.out (fun e => ne_a_g1 e.symm))
            have r256 := hid (KY253.out.row EX248.out (fun e => ne_a_g2 e.symm))
            have r257 := hid (KY253.out.row r250.out (fun e => ne_a_b e.symm))
            rw [hY253]
            refine hK.out _ _ ?_ (fun hHeld => ?_)
            · (try dsimp only); obtain ⟨s0, s1, s2⟩ := row3 r254.out; obtain ⟨u0, u1, u2, u3, u4, u5⟩ := MX244.out.at r255.out; obtain ⟨v0, v1', v2, v3, v4, v5⟩ := MX248.out.at r256.out; exact ⟨s0, s1, s2, u0, u1, u2, u3, u4, u5, v0, v1', v2, v3, v4, v5⟩
            clear hK hY253
            try simp only [List.getElem_toArray, List.getElem_cons_succ, List.getElem_cons_zero, Act.put, List.setIfInBounds_toArray, List.set_cons_zero, List.set_cons_succ]
            refine wpAnyH_ready (rs := [11]) (by kernel_rfl) (by simp) ?_
            refine AllReadyH.cons (o := _) rfl (fun KK hK => ?_) AllReadyH.nil
            refine step_store_row (by rfl) 35 (.tmp 11) (.tmp 33) (by rfl) g197 #[.int .u64 y.id, .int .u32 y.mb, .int .i64 y.sd, .int .i64 y.ty, .int .i64 y.pr, .int .u64 y.qt] (by rfl) (by rfl) 35 _ r257.out AIy.out ASy.out AAy.out ?_
            obtain ⟨Y258, hY258⟩ : ∃ Y, Y253.setRow g197 #[.int .u64 y.id, .int .u32 y.mb, .int .i64 y.sd, .int .i64 y.ty, .int .i64 y.pr, .int .u64 y.qt] = Y := ⟨_, rfl⟩
            have KY258 := hid (show Kp (fun j => j = g197) Y253 Y258 from by rw [← hY258]; exact setRow_kp _ _ _)
            have AY258 := hid (show Y258.heap[g197]? = some (.cells #[.int .u64 y.id, .int .u32 y.mb, .int .i64 y.sd, .int .i64 y.ty, .int .i64 y.pr, .int .u64 y.qt] 35 (0, 0)) from by rw [← hY258]; exact setRow_heap Y253 g197 _ _ 35 (0, 0) r257.out)
            have BY258 := hid (show Below wr.heap.size wr Y258 from by rw [← hY258]; exact setRow_below BY253.out yg197)
            have r259 := hid (KY258.out.row r254.out (fun e => ne_b_R e.symm))
            have r260 := hid (KY258.out.row r255.out (fun e => ne_b_g1 e.symm))
            have r261 := hid (KY258.out.row r256.out (fun e => ne_b_g2 e.symm))
            have r_a := hid (KY258.out.row AY253.out (fun e => ne_a_b e))
            rw [hY258]
            refine hK.out _ _ ?_ (fun hHeld => ?_)
            · (try dsimp only); obtain ⟨s0, s1, s2⟩ := row3 r259.out; obtain ⟨u0, u1, u2, u3, u4, u5⟩ := MX244.out.at r260.out; obtain ⟨v0, v1', v2, v3, v4, v5⟩ := MX248.out.at r261.out; exact ⟨s0, s1, s2, u0, u1, u2, u3, u4, u5, v0, v1', v2, v3, v4, v5⟩
            clear hK hY258
            try simp only [List.getElem_toArray, List.getElem_cons_succ, List.getElem_cons_zero, Act.put, List.setIfInBounds_toArray, List.set_cons_zero, List.set_cons_succ]
            refine wpAnyH_done (by kernel_rfl) ?_ _
            exact ⟨(g241, g197, g1, c1, g2, c2), by rfl, BY258, hid yg241, hid yg197, r_a, AY258, hid ne_a_b⟩
      · rintro ⟨a, b, g1, c1, g2, c2⟩ W ⟨BW, HLA, HLB, HA, HY, HNE⟩
        dsimp only at HLA HLB HA HY HNE
        try simp only [List.getElem_toArray, List.getElem_cons_succ, List.getElem_cons_zero, Act.put, List.setIfInBounds_toArray, List.set_cons_zero, List.set_cons_succ]
        have HBG := hid (show left ≤ 17592186044416 from by have e1 := HU.out.vg.a; have e2 := tot_bound (s := 1) (HU.out.lk.sd 1).ok; have e3 := (HU.out.lk.sd 1).ln; omega)
        obtain ⟨n, hn⟩ : ∃ n, min x.qt y.qt = n := ⟨_, rfl⟩
        rw [hn] at HVN HF1 HT1 HT2 HLF
        have HQN := hid (show 0 < n ∧ n ≤ x.qt ∧ n ≤ y.qt ∧ n ≤ left from by have := HQQ.out; have := HLF.out; omega)
        have dl : decide (left < n) = false := decide_eq_false (by have := HLF.out; omega)
        have wl : IntKind.u64.wrap (left - n) = left - n := by rw [IntKind.wrap_u64]; have := HBG.out; have := HQN.out; omega
        have hnf : nf ≤ 8192 := by have h1 := HU.out.few; have h2 := HTL.out; rw [HNF.out] at h1; omega
        have hwW : w.heap.size ≤ W.heap.size := Nat.le_trans HU.out.be.size BW.out.size
        have HFT := hid (show ∀ k, (Value.slice pf nf cf).ownBlock = some k → w.heap.size ≤ k ∧ ∃ cu, W.heap[k]? = some (.cells cu 67 (0, 0)) from fun k hk => by have h2 := own_on HU.out.fo BW.out; rw [HNF.out] at h2; exact ⟨own_ge h2 hk, own_ty h2 hk⟩)
        have CA := hid (show ∀ (U : World), Li U pL cL L → Calls Tryz.prog 43 #[.agg #[.int .i64 r, .int .i64 m, .slice pL nL cL], .int .u64 x.id, .int .u64 n] U fun e w' => ∃ p' c', e = .returned (.agg #[.int .i64 r, .int .i64 m, .slice p' (lsd x n L).length c']) ∧ Hid (Li w' p' c' (lsd x n L)) ∧ Hid (Below U.heap.size U w') ∧ Hid (∀ g, OfP p' g → U.heap.size ≤ g) from fun U hU => by have := less_any r m pL cL L x HXL.out n U hU HU.out.lk HQN.out.1 HQN.out.2.1; rw [HNL.out] at this; exact this)
        have hy1 : y ∈ lsd x n L := lsd_mem HU.out.lk HE2.out HXL.out HSX.out n
        have CB := hid (show ∀ (U : World) (p1 : Option Addr) (c1 : Nat), Li U p1 c1 (lsd x n L) → Calls Tryz.prog 43 #[.agg #[.int .i64 r, .int .i64 m, .slice p1 (lsd x n L).length c1], .int .u64 y.id, .int .u64 n] U fun e w' => ∃ p' c', e = .returned (.agg #[.int .i64 r, .int .i64 m, .slice p' (lsd y n (lsd x n L)).length c']) ∧ Hid (Li w' p' c' (lsd y n (lsd x n L))) ∧ Hid (Below U.heap.size U w') ∧ Hid (∀ g, OfP p' g → U.heap.size ≤ g) from fun U p1 c1 hU => less_any r m p1 c1 (lsd x n L) y hy1 n U hU (lsd_lk HU.out.lk HXL.out (by have := HQN.out; omega) HQN.out.2.1) HQN.out.1 HQN.out.2.2.1)
        have HMN := hid hn
        obtain ⟨L1, hL1⟩ : ∃ l, lsd x n L = l := ⟨_, rfl⟩
        obtain ⟨n1, hn1⟩ : ∃ k, L1.length = k := ⟨_, rfl⟩
        obtain ⟨L2, hL2⟩ : ∃ l, lsd y n L1 = l := ⟨_, rfl⟩
        obtain ⟨n2, hn2⟩ : ∃ k, L2.length = k := ⟨_, rfl⟩
        have HL1 := hid hL1
        have HL2 := hid hL2
        have HN1 := hid hn1
        have HN2 := hid hn2
        rw [hL1, hn1] at CA
        rw [hL1, hL2, hn1, hn2] at CB
        obtain ⟨x0, x1, x2, x3, x4, x5⟩ := row6 HA.out
        obtain ⟨y0, y1, y2, y3, y4, y5⟩ := row6 HY.out
        obtain ⟨z0, z1, z2, z3, z4⟩ := row5 (row_on HU.out.rog BW.out)
        have HRGE := hid (show w.heap.size ≤ R from by have := HRR.out; omega)
        clear hn hy1 hL1 hL2 hn1 hn2
        by_cases hyx : y.qt < x.qt
        · have e : y.qt = n := by have := HMN.out; omega
          rw [e] at y5
          have d1 : decide (n < x.qt) = true := decide_eq_true (by omega)
          clear e hyx
          have HOW := hid (own_on HU.out.fo (btr BW.out (ball W (.cells #[.int .u64 x.id, .int .u64 y.id, .int .i64 z.pr, .int .u64 n] 67))))
          rw [HNF.out] at HOW
          have HON := hid (made4 W ⟨x.id, y.id, z.pr, n⟩)
          go_upto_region 14 with (at_builtin; refine wpList_app_mine (by rfl) (.tmp 46) (.tmp 55) 60 67 _ 4 32 (by rfl) Tryz.underlying60 infoF rfl (by decide) w.heap.size 0 _ nf _ (by rfl) HOW.out _ 1 1 _ (by rfl) HON.out (frow_one _) (by unfold maxLen; omega) (by omega) (by simp; omega) ?_; intro v' w4 hown hgrow; obtain ⟨p9, q9, rfl⟩ := own_form hown; have HO4 := hid hown; have KZ := hid (grow_kp hgrow); clear hown hgrow)
          clear x0 x1 x2 x3 x4 x5 y0 y1 y2 y3 y4 y5 z0 z1 z2 z3 z4 d1 dl
          have kR := hid (KZ.out.row (row_on HRW.out BW.out) (fun e => by obtain ⟨_, cu, hc⟩ := HFT.out _ e; exact row_ne hc (row_on HRW.out BW.out) (by decide) rfl))
          have kA := hid (KZ.out.row HA.out (fun e => by obtain ⟨_, cu, hc⟩ := HFT.out _ e; exact row_ne hc HA.out (by decide) rfl))
          have kB := hid (KZ.out.row HY.out (fun e => by obtain ⟨_, cu, hc⟩ := HFT.out _ e; exact row_ne hc HY.out (by decide) rfl))
          have kL := hid ((HU.out.li.on BW.out).kept KZ.out (fun g hg e => by obtain ⟨_, cu, hc⟩ := HFT.out g e; obtain ⟨cu2, hc2⟩ := (HU.out.li.on BW.out).ty hg; exact row_ne hc hc2 (by decide) rfl))
          have kW := hid (show Below w.heap.size w w4 from (btr HU.out.be BW.out).trans (KZ.out.below hwW (fun g hg e => by have := (HFT.out g e).1; omega)))
          obtain ⟨V1, hV1⟩ : ∃ U, w4.drew = U := ⟨_, rfl⟩
          have BV1 := hid (show Below w4.heap.size w4 V1 from by rw [← hV1]; exact bdrew1 _)
          have HSS := hid (show ∀ U : World, U.heap[a]? = some (.cells #[.int .u64 x.id, .int .u32 x.mb, .int .i64 x.sd, .int .i64 x.ty, .int .i64 x.pr, .int .u64 x.qt] 35 (0, 0)) → U.heap[b]? = some (.cells #[.int .u64 y.id, .int .u32 y.mb, .int .i64 y.sd, .int .i64 y.ty, .int .i64 y.pr, .int .u64 y.qt] 35 (0, 0)) → U.cell? ⟨a, 0, none⟩ = some (.int .u64 x.id) ∧ U.cell? ⟨b, 0, none⟩ = some (.int .u64 y.id) from fun U h1 h2 => ⟨(row6 h1).1, (row6 h2).1⟩)
          have vA := hid (row_on kA.out BV1.out)
          have vB := hid (row_on kB.out BV1.out)
          have vR := hid (row_on kR.out BV1.out)
          refine wp_region_held_drew (S := (fun U => U.cell? ⟨a, 0, none⟩ = some (.int .u64 x.id) ∧ U.cell? ⟨b, 0, none⟩ = some (.int .u64 y.id))) (by kernel_rfl) ?_ (fun hHeld => ?_)
          · (try dsimp only); rw [hV1]; exact HSS.out V1 vA.out vB.out
          rw [hV1] at hHeld ⊢
          clear hV1
          refine' wpAnyH_take (i := 1) (oi := _) (v := _) rfl (by kernel_rfl) (by kernel_rfl) (by kernel_rfl) (fun _ _ _ h => h) (Or.inl ⟨by kernel_rfl, ?_⟩) (by assumption) ?_
          rotate_left
          · (intro w hSw; (try dsimp only at hSw); go_simp; try (with_reducible rfl))
          try simp only [List.getElem_toArray, List.getElem_cons_succ, List.getElem_cons_zero, Act.put, List.setIfInBounds_toArray, List.set_cons_zero, List.set_cons_succ]
          refine' wpAnyH_take (i := 2) (oi := _) (v := _) rfl (by kernel_rfl) (by kernel_rfl) (by kernel_rfl) (fun _ _ _ h => h) (Or.inl ⟨by kernel_rfl, ?_⟩) (by assumption) ?_
          rotate_left
          · (intro w hSw; (try dsimp only at hSw); go_simp; try (with_reducible rfl))
          try simp only [List.getElem_toArray, List.getElem_cons_succ, List.getElem_cons_zero, Act.put, List.setIfInBounds_toArray, List.set_cons_zero, List.set_cons_succ]
          refine' wpAnyH_take (i := 3) (oi := _) (v := _) rfl (by kernel_rfl) (by kernel_rfl) (by kernel_rfl) (fun _ _ _ h => h) (Or.inl ⟨by kernel_rfl, ?_⟩) (by assumption) ?_
          rotate_left
          · (intro w hSw; (try dsimp only at hSw); go_simp; try (with_reducible rfl))
          try simp only [List.getElem_toArray, List.getElem_cons_succ, List.getElem_cons_zero, Act.put, List.setIfInBounds_toArray, List.set_cons_zero, List.set_cons_succ]
          refine' wpAnyH_take (i := 5) (oi := _) (v := _) rfl (by kernel_rfl) (by kernel_rfl) (by kernel_rfl) (fun _ _ _ h => h) (Or.inl ⟨by kernel_rfl, ?_⟩) (by assumption) ?_
          rotate_left
          · (intro w hSw; (try dsimp only at hSw); go_simp; try (with_reducible rfl))
          try simp only [List.getElem_toArray, List.getElem_cons_succ, List.getElem_cons_zero, Act.put, List.setIfInBounds_toArray, List.set_cons_zero, List.set_cons_succ]
          refine' wpAnyH_take (i := 6) (oi := _) (v := _) rfl (by kernel_rfl) (by kernel_rfl) (by kernel_rfl) (fun _ _ _ h => h) (Or.inl ⟨by kernel_rfl, ?_⟩) (by assumption) ?_
          rotate_left
          · (intro w hSw; (try dsimp only at hSw); go_simp; try (with_reducible rfl))
          try simp only [List.getElem_toArray, List.getElem_cons_succ, List.getElem_cons_zero, Act.put, List.setIfInBounds_toArray, List.set_cons_zero, List.set_cons_succ]
          refine' wpAnyH_take (i := 7) (oi := _) (v := _) rfl (by kernel_rfl) (by kernel_rfl) (by kernel_rfl) (fun _ _ _ h => h) (Or.inl ⟨by kernel_rfl, ?_⟩) (by assumption) ?_
          rotate_left
          · (intro w hSw; (try dsimp only at hSw); go_simp; try (with_reducible rfl))
          try simp only [List.getElem_toArray, List.getElem_cons_succ, List.getElem_cons_zero, Act.put, List.setIfInBounds_toArray, List.set_cons_zero, List.set_cons_succ]
          refine wpAnyH_ready (rs := [0]) (by kernel_rfl) (by simp) ?_
          refine AllReadyH.cons (o := _) rfl (fun KK hK => ?_) AllReadyH.nil
          obtain ⟨k0, k1, k2⟩ := row3 vR.out
          go_simp
          refine hK.out _ _ ?_ (fun hHeld => ?_)
          · (try dsimp only); exact HSS.out V1 vA.out vB.out
          clear hK KK k0 k1 k2
          try simp only [List.getElem_toArray, List.getElem_cons_succ, List.getElem_cons_zero, Act.put, List.setIfInBounds_toArray, List.set_cons_zero, List.set_cons_succ]
          refine wpAnyH_ready (rs := [4]) (by kernel_rfl) (by simp) ?_
          refine AllReadyH.cons (o := _) rfl (fun KK hK => ?_) AllReadyH.nil
          go_simp
          go_at_call 43
          with_reducible refine (CA.out V1 (kL.out.on BV1.out)).mono ?_
          rintro e V2 ⟨p1, c3, rfl, LI1, BB1, FF1⟩
          have vA2 := hid (row_on vA.out BB1.out)
          have vB2 := hid (row_on vB.out BB1.out)
          have vR2 := hid (row_on vR.out BB1.out)
          (try go_wp2_with fail)
          refine hK.out _ _ ?_ (fun hHeld => ?_)
          · (try dsimp only); exact HSS.out V2 vA2.out vB2.out
          clear hK KK
          try simp only [List.getElem_toArray, List.getElem_cons_succ, List.getElem_cons_zero, Act.put, List.setIfInBounds_toArray, List.set_cons_zero, List.set_cons_succ]
          refine wpAnyH_ready (rs := [8]) (by kernel_rfl) (by simp) ?_
          refine AllReadyH.cons (o := _) rfl (fun KK hK => ?_) AllReadyH.nil
          go_simp
          go_at_call 43
          with_reducible refine (CB.out V2 p1 c3 LI1.out).mono ?_
          rintro e V3 ⟨p2, c4, rfl, LI2, BB2, FF2⟩
          have vA3 := hid (row_on vA2.out BB2.out)
          have vB3 := hid (row_on vB2.out BB2.out)
          have vR3 := hid (row_on vR2.out BB2.out)
          (try go_wp2_with fail)
          refine hK.out _ _ ?_ (fun hHeld => ?_)
          · (try dsimp only); exact HSS.out V3 vA3.out vB3.out
          clear hK KK
          try simp only [List.getElem_toArray, List.getElem_cons_succ, List.getElem_cons_zero, Act.put, List.setIfInBounds_toArray, List.set_cons_zero, List.set_cons_succ]
          refine wpAnyH_ready (rs := [9]) (by kernel_rfl) (by simp) ?_
          refine AllReadyH.cons (o := _) rfl (fun KK hK => ?_) AllReadyH.nil
          refine step_store_row (by rfl) 29 (.tmp 1) (.tmp 65) (by rfl) R #[.int .i64 r, .int .i64 m, .slice p2 n2 c4] (by rfl) (by rfl) 29 _ vR3.out infoRc (by rfl) (by simp [Value.oneCell']) ?_
          obtain ⟨Y, hY⟩ : ∃ Y, V3.setRow R #[.int .i64 r, .int .i64 m, .slice p2 n2 c4] = Y := ⟨_, rfl⟩
          have KY := hid (show Kp (fun j => j = R) V3 Y from by rw [← hY]; exact setRow_kp _ _ _)
          have HKY := hid (show Y.heap[R]? = some (.cells #[.int .i64 r, .int .i64 m, .slice p2 n2 c4] 29 (0, 0)) from by rw [← hY]; exact setRow_heap V3 R _ _ 29 (0, 0) vR3.out)
          have HBY := hid (show Below w.heap.size w Y from by rw [← hY]; exact setRow_below (btr kW.out (btr BV1.out (btr BB1.out BB2.out))) HRGE.out)
          rw [hY]
          refine hK.out _ _ ?_ (fun hHeld => ?_)
          · (try dsimp only); exact HSS.out Y (KY.out.row vA3.out (fun e => row_ne vA3.out vR3.out (by decide) e)) (KY.out.row vB3.out (fun e => row_ne vB3.out vR3.out (by decide) e))
          clear hK KK hY
          try simp only [List.getElem_toArray, List.getElem_cons_succ, List.getElem_cons_zero, Act.put, List.setIfInBounds_toArray, List.set_cons_zero, List.set_cons_succ]
          refine wpAnyH_done (by kernel_rfl) ?_ _
          clear hHeld
          go_wp2
          go_roundw
          case rel =>
            refine ⟨L2, p2, n2, c4, left - n, F0 ++ [⟨x.id, y.id, z.pr, n⟩], p9, nf + 1, q9, by first | rfl | simp, by first | rfl | (rw [wl]) | simp [wl], by have := HQN.out; omega, hid (by simp [HNF.out]), HN2, hid ?_⟩
            have hli : Li Y p2 c4 L2 := LI2.out.kept KY.out (fun g hg e => by obtain ⟨cu2, hc2⟩ := LI2.out.ty hg; exact row_ne hc2 vR3.out (by decide) e)
            have hfo : Y.ownsRow w.heap.size 67 4 (.slice p9 (nf + 1) q9) (nf + 1) (frs F0 ++ frow ⟨x.id, y.id, z.pr, n⟩) := by
              have h3 := own_on HO4.out (btr BV1.out (btr BB1.out BB2.out))
              refine own_same h3 (fun g hg => ?_)
              obtain ⟨cu, hc⟩ := own_ty h3 hg
              exact KY.out.obj g (row_lt hc) (fun e => row_ne hc vR3.out (by decide) e)
            have hk : ∀ g, g < wr.heap.size → g ≠ R → Value.ownBlock (.slice pf F0.length cf) ≠ some g → Y.heap[g]? = wr.heap[g]? := fun g hg hR hne => by
              have l1 := BW.out.size
              have l2 := KZ.out.size
              have l3 := BV1.out.size
              have l4 := BB1.out.size
              have l5 := BB2.out.size
              rw [HNF.out] at hne
              exact (KY.out.obj g (by omega) hR).trans ((BB2.out.block g (by omega)).trans ((BB1.out.block g (by omega)).trans ((BV1.out.block g (by omega)).trans ((KZ.out.obj g (by omega) hne).trans (BW.out.block g hg)))))
            have hrow := HKY.out
            rw [← HN2.out] at hrow
            rw [← HNF.out] at hfo
            rw [← HL2.out, ← HL1.out] at hli hrow ⊢
            exact HU.out.further HE1.out HE2.out HXL.out HYL.out HSX.out HSY.out HQN.out.1 HQN.out.2.1 HQN.out.2.2.1 HVN.out HF1.out HT1.out HT2.out hrow hk hli hfo HBY.out (fun g hg => Nat.le_trans (btr kW.out (btr BV1.out BB1.out)).size (FF2.out g hg))
          case measure => have := HQN.out; simp [intOf]; omega
        · have e : x.qt = n := by have := HMN.out; omega
          rw [e] at x5
          have d1 : decide (y.qt < n) = false := decide_eq_false (by omega)
          clear e hyx
          have HOW := hid (own_on HU.out.fo (btr BW.out (ball W (.cells #[.int .u64 x.id, .int .u64 y.id, .int .i64 z.pr, .int .u64 n] 67))))
          rw [HNF.out] at HOW
          have HON := hid (made4 W ⟨x.id, y.id, z.pr, n⟩)
          go_upto_region 14 with (at_builtin; refine wpList_app_mine (by rfl) (.tmp 46) (.tmp 55) 60 67 _ 4 32 (by rfl) Tryz.underlying60 infoF rfl (by decide) w.heap.size 0 _ nf _ (by rfl) HOW.out _ 1 1 _ (by rfl) HON.out (frow_one _) (by unfold maxLen; omega) (by omega) (by simp; omega) ?_; intro v' w4 hown hgrow; obtain ⟨p9, q9, rfl⟩ := own_form hown; have HO4 := hid hown; have KZ := hid (grow_kp hgrow); clear hown hgrow)
          clear x0 x1 x2 x3 x4 x5 y0 y1 y2 y3 y4 y5 z0 z1 z2 z3 z4 d1 dl
          have kR := hid (KZ.out.row (row_on HRW.out BW.out) (fun e => by obtain ⟨_, cu, hc⟩ := HFT.out _ e; exact row_ne hc (row_on HRW.out BW.out) (by decide) rfl))
          have kA := hid (KZ.out.row HA.out (fun e => by obtain ⟨_, cu, hc⟩ := HFT.out _ e; exact row_ne hc HA.out (by decide) rfl))
          have kB := hid (KZ.out.row HY.out (fun e => by obtain ⟨_, cu, hc⟩ := HFT.out _ e; exact row_ne hc HY.out (by decide) rfl))
          have kL := hid ((HU.out.li.on BW.out).kept KZ.out (fun g hg e => by obtain ⟨_, cu, hc⟩ := HFT.out g e; obtain ⟨cu2, hc2⟩ := (HU.out.li.on BW.out).ty hg; exact row_ne hc hc2 (by decide) rfl))
          have kW := hid (show Below w.heap.size w w4 from (btr HU.out.be BW.out).trans (KZ.out.below hwW (fun g hg e => by have := (HFT.out g e).1; omega)))
          obtain ⟨V1, hV1⟩ : ∃ U, w4.drew = U := ⟨_, rfl⟩
          have BV1 := hid (show Below w4.heap.size w4 V1 from by rw [← hV1]; exact bdrew1 _)
          have HSS := hid (show ∀ U : World, U.heap[a]? = some (.cells #[.int .u64 x.id, .int .u32 x.mb, .int .i64 x.sd, .int .i64 x.ty, .int .i64 x.pr, .int .u64 x.qt] 35 (0, 0)) → U.heap[b]? = some (.cells #[.int .u64 y.id, .int .u32 y.mb, .int .i64 y.sd, .int .i64 y.ty, .int .i64 y.pr, .int .u64 y.qt] 35 (0, 0)) → U.cell? ⟨a, 0, none⟩ = some (.int .u64 x.id) ∧ U.cell? ⟨b, 0, none⟩ = some (.int .u64 y.id) from fun U h1 h2 => ⟨(row6 h1).1, (row6 h2).1⟩)
          have vA := hid (row_on kA.out BV1.out)
          have vB := hid (row_on kB.out BV1.out)
          have vR := hid (row_on kR.out BV1.out)
          refine wp_region_held_drew (S := (fun U => U.cell? ⟨a, 0, none⟩ = some (.int .u64 x.id) ∧ U.cell? ⟨b, 0, none⟩ = some (.int .u64 y.id))) (by kernel_rfl) ?_ (fun hHeld => ?_)
          · (try dsimp only); rw [hV1]; exact HSS.out V1 vA.out vB.out
          rw [hV1] at hHeld ⊢
          clear hV1
          refine' wpAnyH_take (i := 1) (oi := _) (v := _) rfl (by kernel_rfl) (by kernel_rfl) (by kernel_rfl) (fun _ _ _ h => h) (Or.inl ⟨by kernel_rfl, ?_⟩) (by assumption) ?_
          rotate_left
          · (intro w hSw; (try dsimp only at hSw); go_simp; try (with_reducible rfl))
          try simp only [List.getElem_toArray, List.getElem_cons_succ, List.getElem_cons_zero, Act.put, List.setIfInBounds_toArray, List.set_cons_zero, List.set_cons_succ]
          refine' wpAnyH_take (i := 2) (oi := _) (v := _) rfl (by kernel_rfl) (by kernel_rfl) (by kernel_rfl) (fun _ _ _ h => h) (Or.inl ⟨by kernel_rfl, ?_⟩) (by assumption) ?_
          rotate_left
          · (intro w hSw; (try dsimp only at hSw); go_simp; try (with_reducible rfl))
          try simp only [List.getElem_toArray, List.getElem_cons_succ, List.getElem_cons_zero, Act.put, List.setIfInBounds_toArray, List.set_cons_zero, List.set_cons_succ]
          refine' wpAnyH_take (i := 3) (oi := _) (v := _) rfl (by kernel_rfl) (by kernel_rfl) (by kernel_rfl) (fun _ _ _ h => h) (Or.inl ⟨by kernel_rfl, ?_⟩) (by assumption) ?_
          rotate_left
          · (intro w hSw; (try dsimp only at hSw); go_simp; try (with_reducible rfl))
          try simp only [List.getElem_toArray, List.getElem_cons_succ, List.getElem_cons_zero, Act.put, List.setIfInBounds_toArray, List.set_cons_zero, List.set_cons_succ]
          refine' wpAnyH_take (i := 5) (oi := _) (v := _) rfl (by kernel_rfl) (by kernel_rfl) (by kernel_rfl) (fun _ _ _ h => h) (Or.inl ⟨by kernel_rfl, ?_⟩) (by assumption) ?_
          rotate_left
          · (intro w hSw; (try dsimp only at hSw); go_simp; try (with_reducible rfl))
          try simp only [List.getElem_toArray, List.getElem_cons_succ, List.getElem_cons_zero, Act.put, List.setIfInBounds_toArray, List.set_cons_zero, List.set_cons_succ]
          refine' wpAnyH_take (i := 6) (oi := _) (v := _) rfl (by kernel_rfl) (by kernel_rfl) (by kernel_rfl) (fun _ _ _ h => h) (Or.inl ⟨by kernel_rfl, ?_⟩) (by assumption) ?_
          rotate_left
          · (intro w hSw; (try dsimp only at hSw); go_simp; try (with_reducible rfl))
          try simp only [List.getElem_toArray, List.getElem_cons_succ, List.getElem_cons_zero, Act.put, List.setIfInBounds_toArray, List.set_cons_zero, List.set_cons_succ]
          refine' wpAnyH_take (i := 7) (oi := _) (v := _) rfl (by kernel_rfl) (by kernel_rfl) (by kernel_rfl) (fun _ _ _ h => h) (Or.inl ⟨by kernel_rfl, ?_⟩) (by assumption) ?_
          rotate_left
          · (intro w hSw; (try dsimp only at hSw); go_simp; try (with_reducible rfl))
          try simp only [List.getElem_toArray, List.getElem_cons_succ, List.getElem_cons_zero, Act.put, List.setIfInBounds_toArray, List.set_cons_zero, List.set_cons_succ]
          refine wpAnyH_ready (rs := [0]) (by kernel_rfl) (by simp) ?_
          refine AllReadyH.cons (o := _) rfl (fun KK hK => ?_) AllReadyH.nil
          obtain ⟨k0, k1, k2⟩ := row3 vR.out
          go_simp
          refine hK.out _ _ ?_ (fun hHeld => ?_)
          · (try dsimp only); exact HSS.out V1 vA.out vB.out
          clear hK KK k0 k1 k2
          try simp only [List.getElem_toArray, List.getElem_cons_succ, List.getElem_cons_zero, Act.put, List.setIfInBounds_toArray, List.set_cons_zero, List.set_cons_succ]
          refine wpAnyH_ready (rs := [4]) (by kernel_rfl) (by simp) ?_
          refine AllReadyH.cons (o := _) rfl (fun KK hK => ?_) AllReadyH.nil
          go_simp
          go_at_call 43
          with_reducible refine (CA.out V1 (kL.out.on BV1.out)).mono ?_
          rintro e V2 ⟨p1, c3, rfl, LI1, BB1, FF1⟩
          have vA2 := hid (row_on vA.out BB1.out)
          have vB2 := hid (row_on vB.out BB1.out)
          have vR2 := hid (row_on vR.out BB1.out)
          (try go_wp2_with fail)
          refine hK.out _ _ ?_ (fun hHeld => ?_)
          · (try dsimp only); exact HSS.out V2 vA2.out vB2.out
          clear hK KK
          try simp only [List.getElem_toArray, List.getElem_cons_succ, List.getElem_cons_zero, Act.put, List.setIfInBounds_toArray, List.set_cons_zero, List.set_cons_succ]
          refine wpAnyH_ready (rs := [8]) (by kernel_rfl) (by simp) ?_
          refine AllReadyH.cons (o := _) rfl (fun KK hK => ?_) AllReadyH.nil
          go_simp
          go_at_call 43
          with_reducible refine (CB.out V2 p1 c3 LI1.out).mono ?_
          rintro e V3 ⟨p2, c4, rfl, LI2, BB2, FF2⟩
          have vA3 := hid (row_on vA2.out BB2.out)
          have vB3 := hid (row_on vB2.out BB2.out)
          have vR3 := hid (row_on vR2.out BB2.out)
          (try go_wp2_with fail)
          refine hK.out _ _ ?_ (fun hHeld => ?_)
          · (try dsimp only); exact HSS.out V3 vA3.out vB3.out
          clear hK KK
          try simp only [List.getElem_toArray, List.getElem_cons_succ, List.getElem_cons_zero, Act.put, List.setIfInBounds_toArray, List.set_cons_zero, List.set_cons_succ]
          refine wpAnyH_ready (rs := [9]) (by kernel_rfl) (by simp) ?_
          refine AllReadyH.cons (o := _) rfl (fun KK hK => ?_) AllReadyH.nil
          refine step_store_row (by rfl) 29 (.tmp 1) (.tmp 65) (by rfl) R #[.int .i64 r, .int .i64 m, .slice p2 n2 c4] (by rfl) (by rfl) 29 _ vR3.out infoRc (by rfl) (by simp [Value.oneCell']) ?_
          obtain ⟨Y, hY⟩ : ∃ Y, V3.setRow R #[.int .i64 r, .int .i64 m, .slice p2 n2 c4] = Y := ⟨_, rfl⟩
          have KY := hid (show Kp (fun j => j = R) V3 Y from by rw [← hY]; exact setRow_kp _ _ _)
          have HKY := hid (show Y.heap[R]? = some (.cells #[.int .i64 r, .int .i64 m, .slice p2 n2 c4] 29 (0, 0)) from by rw [← hY]; exact setRow_heap V3 R _ _ 29 (0, 0) vR3.out)
          have HBY := hid (show Below w.heap.size w Y from by rw [← hY]; exact setRow_below (btr kW.out (btr BV1.out (btr BB1.out BB2.out))) HRGE.out)
          rw [hY]
          refine hK.out _ _ ?_ (fun hHeld => ?_)
          · (try dsimp only); exact HSS.out Y (KY.out.row vA3.out (fun e => row_ne vA3.out vR3.out (by decide) e)) (KY.out.row vB3.out (fun e => row_ne vB3.out vR3.out (by decide) e))
          clear hK KK hY
          try simp only [List.getElem_toArray, List.getElem_cons_succ, List.getElem_cons_zero, Act.put, List.setIfInBounds_toArray, List.set_cons_zero, List.set_cons_succ]
          refine wpAnyH_done (by kernel_rfl) ?_ _
          clear hHeld
          go_wp2
          go_roundw
          case rel =>
            refine ⟨L2, p2, n2, c4, left - n, F0 ++ [⟨x.id, y.id, z.pr, n⟩], p9, nf + 1, q9, by first | rfl | simp, by first | rfl | (rw [wl]) | simp [wl], by have := HQN.out; omega, hid (by simp [HNF.out]), HN2, hid ?_⟩
            have hli : Li Y p2 c4 L2 := LI2.out.kept KY.out (fun g hg e => by obtain ⟨cu2, hc2⟩ := LI2.out.ty hg; exact row_ne hc2 vR3.out (by decide) e)
            have hfo : Y.ownsRow w.heap.size 67 4 (.slice p9 (nf + 1) q9) (nf + 1) (frs F0 ++ frow ⟨x.id, y.id, z.pr, n⟩) := by
              have h3 := own_on HO4.out (btr BV1.out (btr BB1.out BB2.out))
              refine own_same h3 (fun g hg => ?_)
              obtain ⟨cu, hc⟩ := own_ty h3 hg
              exact KY.out.obj g (row_lt hc) (fun e => row_ne hc vR3.out (by decide) e)
            have hk : ∀ g, g < wr.heap.size → g ≠ R → Value.ownBlock (.slice pf F0.length cf) ≠ some g → Y.heap[g]? = wr.heap[g]? := fun g hg hR hne => by
              have l1 := BW.out.size
              have l2 := KZ.out.size
              have l3 := BV1.out.size
              have l4 := BB1.out.size
              have l5 := BB2.out.size
              rw [HNF.out] at hne
              exact (KY.out.obj g (by omega) hR).trans ((BB2.out.block g (by omega)).trans ((BB1.out.block g (by omega)).trans ((BV1.out.block g (by omega)).trans ((KZ.out.obj g (by omega) hne).trans (BW.out.block g hg)))))
            have hrow := HKY.out
            rw [← HN2.out] at hrow
            rw [← HNF.out] at hfo
            rw [← HL2.out, ← HL1.out] at hli hrow ⊢
            exact HU.out.further HE1.out HE2.out HXL.out HYL.out HSX.out HSY.out HQN.out.1 HQN.out.2.1 HQN.out.2.2.1 HVN.out HF1.out HT1.out HT2.out hrow hk hli hfo HBY.out (fun g hg => Nat.le_trans (btr kW.out (btr BV1.out BB1.out)).size (FF2.out g hg))
          case measure => have := HQN.out; simp [intOf]; omega
    · have d0 : decide (0 < left) = false := decide_eq_false hl
      have HL0 := hid (show left = 0 from by omega)
      have HRW := hid (show wr.heap[R]? = some (.cells #[.int .i64 r, .int .i64 m, .slice pL nL cL] 29 (0, 0)) from by have := HU.out.row; rw [HNL.out] at this; exact this)
      clear hl l0
      go_upto_region 16 with fail
      obtain ⟨X0, hX0⟩ : ∃ U, wr.drew = U := ⟨_, rfl⟩
      have BX0 := hid (show Below wr.heap.size wr X0 from by rw [← hX0]; exact bdrew1 _)
      have HX := hid (HU.out.on BX0.out)
      have HRX := hid (row_on HRW.out BX0.out)
      have HS := hid (show ∀ U : World, U.heap[R]? = some (.cells #[.int .i64 r, .int .i64 m, .slice pL nL cL] 29 (0, 0)) → U.heap[γ]? = some (.cells #[.int .i64 z.pr, .int .u64 z.vo, .int .u64 z.su, .int .i64 z.sd, .int .i64 z.ru] 57 (0, 0)) → U.cell? ⟨R, 0, none⟩ = some (.int .i64 r) ∧ U.cell? ⟨R, 1, none⟩ = some (.int .i64 m) ∧ U.cell? ⟨R, 2, none⟩ = some (.slice pL nL cL) ∧ U.cell? ⟨γ, 0, none⟩ = some (.int .i64 z.pr) ∧ U.cell? ⟨γ, 1, none⟩ = some (.int .u64 z.vo) ∧ U.cell? ⟨γ, 2, none⟩ = some (.int .u64 z.su) ∧ U.cell? ⟨γ, 3, none⟩ = some (.int .i64 z.sd) ∧ U.cell? ⟨γ, 4, none⟩ = some (.int .i64 z.ru) from fun U e1 e2 => by
        obtain ⟨c0, c1, c2⟩ := row3 e1
        obtain ⟨y0, y1, y2, y3, y4⟩ := row5 e2
        exact ⟨c0, c1, c2, y0, y1, y2, y3, y4⟩)
      refine wp_region_held_drew (S := (fun U => U.cell? ⟨R, 0, none⟩ = some (.int .i64 r) ∧ U.cell? ⟨R, 1, none⟩ = some (.int .i64 m) ∧ U.cell? ⟨R, 2, none⟩ = some (.slice pL nL cL) ∧ U.cell? ⟨γ, 0, none⟩ = some (.int .i64 z.pr) ∧ U.cell? ⟨γ, 1, none⟩ = some (.int .u64 z.vo) ∧ U.cell? ⟨γ, 2, none⟩ = some (.int .u64 z.su) ∧ U.cell? ⟨γ, 3, none⟩ = some (.int .i64 z.sd) ∧ U.cell? ⟨γ, 4, none⟩ = some (.int .i64 z.ru))) (by kernel_rfl) ?_ (fun hHeld => ?_)
      · (try dsimp only); rw [hX0]; exact HS.out X0 HRX.out HX.out.rog
      rw [hX0] at hHeld ⊢
      clear hX0
      refine' wpAnyH_take (i := 0) (oi := _) (v := _) rfl (by kernel_rfl) (by kernel_rfl) (by kernel_rfl) (fun _ _ _ h => h) (Or.inl ⟨by kernel_rfl, ?_⟩) (by assumption) ?_
      rotate_left
      · (intro w hSw; (try dsimp only at hSw); go_simp; try (with_reducible rfl))
      try simp only [List.getElem_toArray, List.getElem_cons_succ, List.getElem_cons_zero, Act.put, List.setIfInBounds_toArray, List.set_cons_zero, List.set_cons_succ]
      refine' wpAnyH_take (i := 1) (oi := _) (v := _) rfl (by kernel_rfl) (by kernel_rfl) (by kernel_rfl) (fun _ _ _ h => h) (Or.inl ⟨by kernel_rfl, ?_⟩) (by assumption) ?_
      rotate_left
      · (intro w hSw; (try dsimp only at hSw); go_simp; try (with_reducible rfl))
      try simp only [List.getElem_toArray, List.getElem_cons_succ, List.getElem_cons_zero, Act.put, List.setIfInBounds_toArray, List.set_cons_zero, List.set_cons_succ]
      refine' wpAnyH_take (i := 2) (oi := _) (v := _) rfl (by kernel_rfl) (by kernel_rfl) (by kernel_rfl) (fun _ _ _ h => h) (Or.inl ⟨by kernel_rfl, ?_⟩) (by assumption) ?_
      rotate_left
      · (intro w hSw; (try dsimp only at hSw); go_simp; try (with_reducible rfl))
      try simp only [List.getElem_toArray, List.getElem_cons_succ, List.getElem_cons_zero, Act.put, List.setIfInBounds_toArray, List.set_cons_zero, List.set_cons_succ]
      refine wpAnyH_ready (rs := [3]) (by kernel_rfl) (by simp) ?_
      refine AllReadyH.cons (o := _) rfl (fun KK hK => ?_) AllReadyH.nil
      refine step_store_row (by rfl) 29 (.tmp 2) (.tmp 69) (by rfl) (R + 1) #[.int .i64 r, .int .i64 m, .slice pL nL cL] (by rfl) (by rfl) 29 _ HX.out.ro1 infoRc (by rfl) (by simp [Value.oneCell']) ?_
      obtain ⟨Y, hY⟩ : ∃ Y, X0.setRow (R + 1) #[.int .i64 r, .int .i64 m, .slice pL nL cL] = Y := ⟨_, rfl⟩
      have KY := hid (show Kp (fun j => j = R + 1) X0 Y from by rw [← hY]; exact setRow_kp _ _ _)
      have HKY := hid (show Y.heap[R + 1]? = some (.cells #[.int .i64 r, .int .i64 m, .slice pL nL cL] 29 (0, 0)) from by rw [← hY]; exact setRow_heap X0 (R + 1) _ _ 29 (0, 0) HX.out.ro1)
      have HZY := hid (KY.out.row HX.out.ro2 (by omega))
      have HRGE := hid (show w.heap.size ≤ R from by have := HRR.out; omega)
      have HBY := hid (show Below w.heap.size w Y from by rw [← hY]; exact setRow_below HX.out.be (by have := HRGE.out; omega))
      have eR := hid (KY.out.row HRX.out (by omega))
      have eG := hid (KY.out.row HX.out.rog (by omega))
      rw [hY]
      refine hK.out _ _ ?_ (fun hHeld => ?_)
      · (try dsimp only); exact HS.out Y eR.out eG.out
      clear hK hY
      try simp only [List.getElem_toArray, List.getElem_cons_succ, List.getElem_cons_zero, Act.put, List.setIfInBounds_toArray, List.set_cons_zero, List.set_cons_succ]
      refine' wpAnyH_take (i := 4) (oi := _) (v := _) rfl (by kernel_rfl) (by kernel_rfl) (by kernel_rfl) (fun _ _ _ h => h) (Or.inl ⟨by kernel_rfl, ?_⟩) (by assumption) ?_
      rotate_left
      · (intro w hSw; (try dsimp only at hSw); go_simp; try (with_reducible rfl))
      try simp only [List.getElem_toArray, List.getElem_cons_succ, List.getElem_cons_zero, Act.put, List.setIfInBounds_toArray, List.set_cons_zero, List.set_cons_succ]
      refine wpAnyH_ready (rs := [5]) (by kernel_rfl) (by simp) ?_
      refine AllReadyH.cons (o := _) rfl (fun KK hK => ?_) AllReadyH.nil
      refine step_store_row (by rfl) 57 (.tmp 4) (.tmp 71) (by rfl) (R + 2) #[.int .i64 z.pr, .int .u64 z.vo, .int .u64 z.su, .int .i64 z.sd, .int .i64 z.ru] (by rfl) (by rfl) 57 _ HZY.out infoQ (by rfl) (by simp [Value.oneCell']) ?_
      refine hK.out _ _ ?_ (fun hHeld => ?_)
      · (try dsimp only); exact HS.out _ ((setRow_other Y (R + 2) R _ (by omega)).trans eR.out) ((setRow_other Y (R + 2) γ _ (by omega)).trans eG.out)
      clear hK
      try simp only [List.getElem_toArray, List.getElem_cons_succ, List.getElem_cons_zero, Act.put, List.setIfInBounds_toArray, List.set_cons_zero, List.set_cons_succ]
      refine' wpAnyH_take (i := 6) (oi := _) (v := _) rfl (by kernel_rfl) (by kernel_rfl) (by kernel_rfl) (fun _ _ _ h => h) (Or.inl ⟨by kernel_rfl, ?_⟩) (by assumption) ?_
      rotate_left
      · (intro w hSw; (try dsimp only at hSw); go_simp; try (with_reducible rfl))
      try simp only [List.getElem_toArray, List.getElem_cons_succ, List.getElem_cons_zero, Act.put, List.setIfInBounds_toArray, List.set_cons_zero, List.set_cons_succ]
      refine wpAnyH_done (by kernel_rfl) ?_ _
      clear hHeld
      go_wp2
      obtain ⟨f, hf, t1, t2⟩ := HU.out.td
      rw [HL0.out, trd_zero] at t1 t2
      simp only [List.append_nil] at t1
      refine bodyPost_ret (res_ctct (fn := Tryz.f20) Tryz.results20 _ _ (R + 1) (R + 2) 29 57 #[.int .i64 r, .int .i64 m, .slice pL nL cL] #[.int .i64 z.pr, .int .u64 z.vo, .int .u64 z.su, .int .i64 z.sd, .int .i64 z.ru] (0, 0) (0, 0) _ _ (.slice pf nf cf) (.bool true) (by rfl) (by rfl) (by rfl) (by rfl) ((setRow_other Y (R + 2) (R + 1) _ (by omega)).trans HKY.out) (setRow_heap _ _ _ _ 57 (0, 0) HZY.out) Tryz.underlying29 rfl infoR Tryz.underlying57 rfl infoQ) rfl ⟨pL, cL, L, pf, cf, ?_, ?_, HU.out.lk, ?_, ?_, ?_, HU.out.fr⟩
      · rw [← t1, HNF.out, HNL.out]
      · exact HX.out.li.same (fun g hg => by
          obtain ⟨cu, hc⟩ := HX.out.li.ty hg
          exact (setRow_other Y (R + 2) g _ (row_ne hc HX.out.ro2 (by decide))).trans (KY.out.obj g (row_lt hc) (row_ne hc HX.out.ro1 (by decide))))
      · exact t2
      · rw [← t1]
        exact own_base (own_same HX.out.fo (fun g hg => by
          obtain ⟨cu, hc⟩ := own_ty HX.out.fo hg
          exact (setRow_other Y (R + 2) g _ (row_ne hc HX.out.ro2 (by decide))).trans (KY.out.obj g (row_lt hc) (row_ne hc HX.out.ro1 (by decide))))) (Nat.zero_le _)
      · exact setRow_below HBY.out (by have := HRGE.out; omega)
end Go.Proofs.YtnmkfdndfhefiaaGreat
