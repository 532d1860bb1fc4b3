/-
  All that is held is done, as far as no number is missing.
-/
import Derived.Test.YtiphgfghdbmlcaaFhE
import Derived.Test.YtiphgfghdbmlcaaFfD
import Derived.Deep.LoopGhost
namespace Go.Proofs.Ytiphgfghdbmlcaa
open Go.RowKit Go.Deep
set_option linter.unusedVariables false
set_option linter.unusedSimpArgs false
set_option maxHeartbeats 8000000
set_option maxRecDepth 100000
attribute [local go_sem ↓] Go.wp_at_zero Go.wp_at_succ
/-- behind a call: the subscriber, and what was left alone. -/
def Bhd (w : World) (S M nm hold : Nat) (s : Ss) (p1 p2 : Option Addr) (w' : World) : Prop := ∃ q1 e1 q2 e2, Su w' S M nm hold s q1 e1 q2 e2 ∧ Kp (fun g => g = S ∨ g = M ∨ OfP p1 g ∨ OfP p2 g) w w' ∧ Fr w.heap.size p1 q1 ∧ Fr w.heap.size p2 q2
theorem catch_any {w : World} {S M nm hold : Nat} {s : Ss} {p1 p2 : Option Addr} {c1 c2 : Nat} (h : Su w S M nm hold s p1 c1 p2 c2) (hg : Sg hold s) :
    Calls Try.prog 60 #[.pointer (some ⟨S, 0, none⟩)] w fun e w' => e = .returned (.tuple #[]) ∧ Bhd w S M nm hold (goS s) p1 p2 w' := by
  obtain ⟨G, hG⟩ : ∃ G, goS s = G := ⟨_, rfl⟩
  rw [hG]
  have H0 := hid h
  have HG0 := hid hg
  have HGG := hid hG
  clear h hg hG
  go_enter Try.func60, Try.ntmps60
  go_wp2
  go_loopg [] (s.L.length) (fun k wr => ∃ (t : Ss) (q1 : Option Addr) (e1 : Nat) (q2 : Option Addr) (e2 : Nat), Hid (Su wr S M nm hold t q1 e1 q2 e2) ∧ Hid (Sg hold t) ∧ Hid (goS t = G) ∧ Hid (t.L.length = k) ∧ Hid (Kp (fun g => g = S ∨ g = M ∨ OfP p1 g ∨ OfP p2 g) w wr) ∧ Hid (Fr w.heap.size p1 q1) ∧ Hid (Fr w.heap.size p2 q2))
  case atStart => exact ⟨s, p1, c1, p2, c2, H0.out, HG0.out, HGG.out, rfl, Kp.refl _ _, Fr.refl _ _, Fr.refl _ _⟩
  case round =>
    obtain ⟨t, q1, e1, q2, e2, HU, HG, HE, HK, HKP, HF1, HF2⟩ := hrel
    clear H0 HG0 HGG
    obtain ⟨sq, gr, l1, l2, L, la⟩ := t
    obtain ⟨y, hy⟩ : ∃ y, IntKind.u64.wrap (sq + 1) = y := ⟨_, rfl⟩
    have hyr : 0 ≤ y ∧ y < 18446744073709551616 := by rw [← hy]; exact uw_rng _
    have HROW := hid (show wr.heap[S]? = some (.cells #[.int .u64 sq, .slice q1 l1.length e1, .slice q2 l2.length e2, .int .i64 hold, .map (some M), .int .u64 gr, .int .u64 la.sq, .int .i64 la.kd, .int .i64 la.sd, .int .i64 la.pr, .int .u64 la.qt, .int .i64 la.ct] 92 (0, 0)) from HU.out.sb.row)
    cases hx : hasN L y with
    | false =>
      have LK := hid (show ∀ U, Below wr.heap.size wr U → (Instr.lookup 90 (.map (some M)) (.int .u64 y) true).run Try.prog U = .ok (.tuple #[.agg #[.int .u64 dm0.sq, .int .i64 dm0.kd, .int .i64 dm0.sd, .int .i64 dm0.pr, .int .u64 dm0.qt, .int .i64 dm0.ct], .bool false]) U from fun U hU => by
        have := (HU.out.sb.hm.on hU).look y hyr
        rw [show L.any (fun d => d.sq == y) = false from hx, fnd_not hx] at this
        exact this)
      have HN := hid (show G = ⟨sq, gr, l1, l2, L, la⟩ from by rw [← HE.out]; exact goS_no (by rw [show uw (sq + 1) = y from hy]; exact hx))
      clear hx hyr
      go_upto_region 0 with fail
      refine reg_cut (X := Nat) (fun a t => ((((((((((((((((a.put (some 5) (.pointer (some ⟨S, 0, none⟩))).put (some 6) (.pointer (some ⟨S, 0, none⟩))).put (some 7) (.pointer (some ⟨S, 4, none⟩))).put (some 8) (.map (some M))).put (some 9) (.pointer (some ⟨S, 0, none⟩))).put (some 10) (.pointer (some ⟨S, 0, none⟩))).put (some 11) (.pointer (some ⟨S, 0, none⟩))).put (some 12) (.pointer (some ⟨S, 0, none⟩))).put (some 13) (.int .u64 sq)).put (some 14) (.int .u64 y)).put (some 15) (.tuple #[.agg #[.int .u64 dm0.sq, .int .i64 dm0.kd, .int .i64 dm0.sd, .int .i64 dm0.pr, .int .u64 dm0.qt, .int .i64 dm0.ct], .bool false])).put (some 4) (.tuple #[.agg #[.int .u64 dm0.sq, .int .i64 dm0.kd, .int .i64 dm0.sd, .int .i64 dm0.pr, .int .u64 dm0.qt, .int .i64 dm0.ct], .bool false])).put (some 16) (.agg #[.int .u64 dm0.sq, .int .i64 dm0.kd, .int .i64 dm0.sd, .int .i64 dm0.pr, .int .u64 dm0.qt, .int .i64 dm0.ct])).put (some 17) (.bool false)).put (some 2) (.pointer (some ⟨t, 0, none⟩))).put (some 3) (.bool false))) (fun t V => Hid (Below wr.heap.size wr V) ∧ Hid (V.heap[t]? = some (.cells #[.int .u64 dm0.sq, .int .i64 dm0.kd, .int .i64 dm0.sd, .int .i64 dm0.pr, .int .u64 dm0.qt, .int .i64 dm0.ct] 48 (0, 0)))) ?_ ?_
      · obtain ⟨V1, hV1⟩ : ∃ U, wr.drew = U := ⟨_, rfl⟩
        have BV1 := hid (show Below wr.heap.size wr V1 from by rw [← hV1]; exact bdrew1 _)
        have r2 := hid (row_on HROW.out BV1.out)
        refine wp_region_held_drew (S := (fun U => U.cell? ⟨S, 0, none⟩ = some (.int .u64 sq) ∧ U.cell? ⟨S, 4, none⟩ = some (.map (some M)) ∧ (Instr.lookup 90 (.map (some M)) (.int .u64 y) true).run Try.prog U = .ok (.tuple #[.agg #[.int .u64 dm0.sq, .int .i64 dm0.kd, .int .i64 dm0.sd, .int .i64 dm0.pr, .int .u64 dm0.qt, .int .i64 dm0.ct], .bool false]) U)) (by kernel_rfl) ?_ (fun hHeld => ?_)
        · (try dsimp only); rw [hV1]; exact ⟨row_cell r2.out 0, row_cell r2.out 4, LK.out _ BV1.out⟩
        rw [hV1] at hHeld ⊢
        clear hV1
        refine' wpAnyH_take (i := 0) (oi := _) (v := _) rfl (by kernel_rfl) (by kernel_rfl) (by kernel_rfl) (fun _ _ _ h => h) (Or.inl ⟨by kernel_rfl, ?_⟩) (by assumption) ?_
        rotate_left
        · (intro w hSw; (try dsimp only at hSw); go_simp; try (with_reducible rfl))
        try simp only [List.getElem_toArray, List.getElem_cons_succ, List.getElem_cons_zero, Act.put, List.setIfInBounds_toArray, List.set_cons_zero, List.set_cons_succ]
        refine' wpAnyH_take (i := 1) (oi := _) (v := _) rfl (by kernel_rfl) (by kernel_rfl) (by kernel_rfl) (fun _ _ _ h => h) (Or.inl ⟨by kernel_rfl, ?_⟩) (by assumption) ?_
        rotate_left
        · (intro w hSw; (try dsimp only at hSw); go_simp; try (with_reducible rfl))
        try simp only [List.getElem_toArray, List.getElem_cons_succ, List.getElem_cons_zero, Act.put, List.setIfInBounds_toArray, List.set_cons_zero, List.set_cons_succ]
        refine' wpAnyH_take (i := 2) (oi := _) (v := _) rfl (by kernel_rfl) (by kernel_rfl) (by kernel_rfl) (fun _ _ _ h => h) (Or.inl ⟨by kernel_rfl, ?_⟩) (by assumption) ?_
        rotate_left
        · (intro w hSw; (try dsimp only at hSw); go_simp; try (with_reducible rfl))
        try simp only [List.getElem_toArray, List.getElem_cons_succ, List.getElem_cons_zero, Act.put, List.setIfInBounds_toArray, List.set_cons_zero, List.set_cons_succ]
        refine' wpAnyH_take (i := 3) (oi := _) (v := _) rfl (by kernel_rfl) (by kernel_rfl) (by kernel_rfl) (fun _ _ _ h => h) (Or.inl ⟨by kernel_rfl, ?_⟩) (by assumption) ?_
        rotate_left
        · (intro w hSw; (try dsimp only at hSw); go_simp; try (with_reducible rfl))
        try simp only [List.getElem_toArray, List.getElem_cons_succ, List.getElem_cons_zero, Act.put, List.setIfInBounds_toArray, List.set_cons_zero, List.set_cons_succ]
        refine' wpAnyH_take (i := 4) (oi := _) (v := _) rfl (by kernel_rfl) (by kernel_rfl) (by kernel_rfl) (fun _ _ _ h => h) (Or.inl ⟨by kernel_rfl, ?_⟩) (by assumption) ?_
        rotate_left
        · (intro w hSw; (try dsimp only at hSw); go_simp; try (with_reducible rfl))
        try simp only [List.getElem_toArray, List.getElem_cons_succ, List.getElem_cons_zero, Act.put, List.setIfInBounds_toArray, List.set_cons_zero, List.set_cons_succ]
        refine' wpAnyH_take (i := 5) (oi := _) (v := _) rfl (by kernel_rfl) (by kernel_rfl) (by kernel_rfl) (fun _ _ _ h => h) (Or.inl ⟨by kernel_rfl, ?_⟩) (by assumption) ?_
        rotate_left
        · (intro w hSw; (try dsimp only at hSw); go_simp; try (with_reducible rfl))
        try simp only [List.getElem_toArray, List.getElem_cons_succ, List.getElem_cons_zero, Act.put, List.setIfInBounds_toArray, List.set_cons_zero, List.set_cons_succ]
        refine' wpAnyH_take (i := 6) (oi := _) (v := _) rfl (by kernel_rfl) (by kernel_rfl) (by kernel_rfl) (fun _ _ _ h => h) (Or.inl ⟨by kernel_rfl, ?_⟩) (by assumption) ?_
        rotate_left
        · (intro w hSw; (try dsimp only at hSw); go_simp; try (with_reducible rfl))
        try simp only [List.getElem_toArray, List.getElem_cons_succ, List.getElem_cons_zero, Act.put, List.setIfInBounds_toArray, List.set_cons_zero, List.set_cons_succ]
        refine' wpAnyH_take (i := 7) (oi := _) (v := _) rfl (by kernel_rfl) (by kernel_rfl) (by kernel_rfl) (fun _ _ _ h => h) (Or.inl ⟨by kernel_rfl, ?_⟩) (by assumption) ?_
        rotate_left
        · (intro w hSw; (try dsimp only at hSw); go_simp; try (with_reducible rfl))
        try simp only [List.getElem_toArray, List.getElem_cons_succ, List.getElem_cons_zero, Act.put, List.setIfInBounds_toArray, List.set_cons_zero, List.set_cons_succ]
        refine' wpAnyH_take (i := 8) (oi := _) (v := _) rfl (by kernel_rfl) (by kernel_rfl) (by kernel_rfl) (fun _ _ _ h => h) (Or.inl ⟨by kernel_rfl, ?_⟩) (by assumption) ?_
        rotate_left
        · (intro w hSw; (try dsimp only at hSw); go_simp; try (with_reducible rfl))
        try simp only [List.getElem_toArray, List.getElem_cons_succ, List.getElem_cons_zero, Act.put, List.setIfInBounds_toArray, List.set_cons_zero, List.set_cons_succ]
        refine' wpAnyH_take (i := 9) (oi := _) (v := _) rfl (by kernel_rfl) (by kernel_rfl) (by kernel_rfl) (fun _ _ _ h => h) (Or.inl ⟨by kernel_rfl, ?_⟩) (by assumption) ?_
        rotate_left
        · (intro w hSw; (try dsimp only at hSw); go_simp; try (with_reducible rfl))
        try simp only [List.getElem_toArray, List.getElem_cons_succ, List.getElem_cons_zero, Act.put, List.setIfInBounds_toArray, List.set_cons_zero, List.set_cons_succ]
        refine' wpAnyH_take (i := 10) (oi := _) (v := _) rfl (by kernel_rfl) (by kernel_rfl) (by kernel_rfl) (fun _ _ _ h => h) (Or.inl ⟨by kernel_rfl, ?_⟩) (by assumption) ?_
        rotate_left
        · (intro w hSw; (try dsimp only at hSw); go_simp; try (with_reducible rfl))
        try simp only [List.getElem_toArray, List.getElem_cons_succ, List.getElem_cons_zero, Act.put, List.setIfInBounds_toArray, List.set_cons_zero, List.set_cons_succ]
        refine' wpAnyH_take (i := 11) (oi := _) (v := _) rfl (by kernel_rfl) (by kernel_rfl) (by kernel_rfl) (fun _ _ _ h => h) (Or.inl ⟨by kernel_rfl, ?_⟩) (by assumption) ?_
        rotate_left
        · (intro w hSw; (try dsimp only at hSw); go_simp; try (with_reducible rfl))
        try simp only [List.getElem_toArray, List.getElem_cons_succ, List.getElem_cons_zero, Act.put, List.setIfInBounds_toArray, List.set_cons_zero, List.set_cons_succ]
        refine' wpAnyH_take (i := 12) (oi := _) (v := _) rfl (by kernel_rfl) (by kernel_rfl) (by kernel_rfl) (fun _ _ _ h => h) (Or.inl ⟨by kernel_rfl, ?_⟩) (by assumption) ?_
        rotate_left
        · (intro w hSw; (try dsimp only at hSw); go_simp; try (with_reducible rfl))
        try simp only [List.getElem_toArray, List.getElem_cons_succ, List.getElem_cons_zero, Act.put, List.setIfInBounds_toArray, List.set_cons_zero, List.set_cons_succ]
        refine' wpAnyH_take (i := 13) (oi := _) (v := _) rfl (by kernel_rfl) (by kernel_rfl) (by kernel_rfl) (fun _ _ _ h => h) (Or.inl ⟨by kernel_rfl, ?_⟩) (by assumption) ?_
        rotate_left
        · (intro w hSw; (try dsimp only at hSw); go_simp; try (with_reducible rfl))
        try simp only [List.getElem_toArray, List.getElem_cons_succ, List.getElem_cons_zero, Act.put, List.setIfInBounds_toArray, List.set_cons_zero, List.set_cons_succ]
        refine wpAnyH_ready (rs := [14]) (by kernel_rfl) (by simp) ?_
        refine (AllReadyH.cons (o := _) rfl (fun K hK => ?_) AllReadyH.nil)
        go_simp
        obtain ⟨X3, hX3⟩ : ∃ X, V1.alloc (.cells #[.int .u64 0, .int .i64 0, .int .i64 0, .int .i64 0, .int .u64 0, .int .i64 0] 48) = X := ⟨_, rfl⟩
        have bX3 : Below V1.heap.size V1 X3 := by rw [← hX3]; exact ball _ _
        have r5 := hid (row_on r2.out bX3)
        have DX3 := hid (btr BV1.out bX3)
        have zX3 : X3.heap[V1.heap.size]? = some (.cells #[.int .u64 0, .int .i64 0, .int .i64 0, .int .i64 0, .int .u64 0, .int .i64 0] 48 (0, 0)) := by rw [← hX3]; exact World.alloc_heap_new _ _
        have yg4 := BV1.out.size
        obtain ⟨g4, hg4⟩ : ∃ g, V1.heap.size = g := ⟨_, rfl⟩
        have n6 : g4 ≠ S := by have := row_lt r2.out; omega
        rw [hg4] at zX3 yg4
        have ZX3 := hid zX3
        rw [hX3, hg4]
        clear hX3 hg4 zX3 bX3
        refine hK.out _ _ ?_ (fun hHeld => ?_)
        · (try dsimp only); exact ⟨row_cell r5.out 0, row_cell r5.out 4, LK.out _ DX3.out⟩
        clear hK K
        try simp only [List.getElem_toArray, List.getElem_cons_succ, List.getElem_cons_zero, Act.put, List.setIfInBounds_toArray, List.set_cons_zero, List.set_cons_succ]
        refine wpAnyH_ready (rs := [15]) (by kernel_rfl) (by simp) ?_
        refine (AllReadyH.cons (o := _) rfl (fun K hK => ?_) AllReadyH.nil)
        refine step_store_row (by rfl) 48 (.tmp 2) (.tmp 16) (by rfl) g4 #[.int .u64 dm0.sq, .int .i64 dm0.kd, .int .i64 dm0.sd, .int .i64 dm0.pr, .int .u64 dm0.qt, .int .i64 dm0.ct] (by rfl) (by rfl) 48 _ ZX3.out infoD (by rfl) (by simp [Value.oneCell']) ?_
        obtain ⟨Y7, hY7⟩ : ∃ Y, X3.setRow g4 #[.int .u64 dm0.sq, .int .i64 dm0.kd, .int .i64 dm0.sd, .int .i64 dm0.pr, .int .u64 dm0.qt, .int .i64 dm0.ct] = Y := ⟨_, rfl⟩
        have KY7 := hid (show Kp (fun j => j = g4) X3 Y7 from by rw [← hY7]; exact setRow_kp _ _ _)
        have AY7 := hid (show Y7.heap[g4]? = some (.cells #[.int .u64 dm0.sq, .int .i64 dm0.kd, .int .i64 dm0.sd, .int .i64 dm0.pr, .int .u64 dm0.qt, .int .i64 dm0.ct] 48 (0, 0)) from by rw [← hY7]; exact setRow_heap X3 g4 _ _ 48 (0, 0) ZX3.out)
        have DY7 := hid (show Below wr.heap.size wr Y7 from by rw [← hY7]; exact setRow_below DX3.out yg4)
        have r8 := hid (KY7.out.row r5.out (fun e => n6.symm e))
        rw [hY7]
        refine hK.out _ _ ?_ (fun hHeld => ?_)
        · (try dsimp only); exact ⟨row_cell r8.out 0, row_cell r8.out 4, LK.out _ DY7.out⟩
        clear hK K hY7
        try simp only [List.getElem_toArray, List.getElem_cons_succ, List.getElem_cons_zero, Act.put, List.setIfInBounds_toArray, List.set_cons_zero, List.set_cons_succ]
        refine' wpAnyH_take (i := 16) (oi := _) (v := _) rfl (by kernel_rfl) (by kernel_rfl) (by kernel_rfl) (fun _ _ _ h => h) (Or.inl ⟨by kernel_rfl, ?_⟩) (by assumption) ?_
        rotate_left
        · (intro w hSw; (try dsimp only at hSw); go_simp; try (with_reducible rfl))
        try simp only [List.getElem_toArray, List.getElem_cons_succ, List.getElem_cons_zero, Act.put, List.setIfInBounds_toArray, List.set_cons_zero, List.set_cons_succ]
        refine wpAnyH_done (by kernel_rfl) ?_ _
        exact ⟨g4, by kernel_rfl, DY7, AY7⟩
      · rintro P V ⟨BV, HP⟩
        try simp only [List.getElem_toArray, List.getElem_cons_succ, List.getElem_cons_zero, Act.put, List.setIfInBounds_toArray, List.set_cons_zero, List.set_cons_succ]
        go_wp2
        refine bodyPost_ret (results_none rfl _ _ _) rfl ?_
        refine ⟨rfl, q1, e1, q2, e2, by rw [HN.out]; exact HU.out.on BV.out, HKP.out.trans (Kp.of (fun _ => False) BV.out) (fun _ _ h => h.elim), HF1.out, HF2.out⟩
    | true =>
      obtain ⟨m, hm⟩ : ∃ m, fnd L y = m := ⟨_, rfl⟩
      have hfm := HG.out.fnd (k := y) hx
      dsimp only at hfm
      rw [hm] at hfm
      have LK := hid (show ∀ U, Below wr.heap.size wr U → (Instr.lookup 90 (.map (some M)) (.int .u64 y) true).run Try.prog U = .ok (.tuple #[.agg #[.int .u64 m.sq, .int .i64 m.kd, .int .i64 m.sd, .int .i64 m.pr, .int .u64 m.qt, .int .i64 m.ct], .bool true]) U from fun U hU => by
        have := (HU.out.sb.hm.on hU).look y hyr
        rw [show L.any (fun d => d.sq == y) = true from hx, hm] at this
        exact this)
      have HX := hid (show hasN L (uw (sq + 1)) = true from by rw [show uw (sq + 1) = y from hy]; exact hx)
      have HNX := hid (show nxS ⟨sq, gr, l1, l2, L, la⟩ = doS ⟨sq, gr, l1, l2, L.filter (fun d => d.sq != m.sq), la⟩ m from by
        unfold nxS
        dsimp only
        rw [show uw (sq + 1) = y from hy, hm, hfm.2.2.1]
        rfl)
      have HFM := hid hfm
      clear hx hyr hm hfm
      go_upto_region 0 with fail
      refine reg_cut (X := Nat) (fun a t => ((((((((((((((((a.put (some 5) (.pointer (some ⟨S, 0, none⟩))).put (some 6) (.pointer (some ⟨S, 0, none⟩))).put (some 7) (.pointer (some ⟨S, 4, none⟩))).put (some 8) (.map (some M))).put (some 9) (.pointer (some ⟨S, 0, none⟩))).put (some 10) (.pointer (some ⟨S, 0, none⟩))).put (some 11) (.pointer (some ⟨S, 0, none⟩))).put (some 12) (.pointer (some ⟨S, 0, none⟩))).put (some 13) (.int .u64 sq)).put (some 14) (.int .u64 y)).put (some 15) (.tuple #[.agg #[.int .u64 m.sq, .int .i64 m.kd, .int .i64 m.sd, .int .i64 m.pr, .int .u64 m.qt, .int .i64 m.ct], .bool true])).put (some 4) (.tuple #[.agg #[.int .u64 m.sq, .int .i64 m.kd, .int .i64 m.sd, .int .i64 m.pr, .int .u64 m.qt, .int .i64 m.ct], .bool true])).put (some 16) (.agg #[.int .u64 m.sq, .int .i64 m.kd, .int .i64 m.sd, .int .i64 m.pr, .int .u64 m.qt, .int .i64 m.ct])).put (some 17) (.bool true)).put (some 2) (.pointer (some ⟨t, 0, none⟩))).put (some 3) (.bool true))) (fun t V => Hid (Below wr.heap.size wr V) ∧ Hid (V.heap[t]? = some (.cells #[.int .u64 m.sq, .int .i64 m.kd, .int .i64 m.sd, .int .i64 m.pr, .int .u64 m.qt, .int .i64 m.ct] 48 (0, 0)))) ?_ ?_
      · obtain ⟨V9, hV9⟩ : ∃ U, wr.drew = U := ⟨_, rfl⟩
        have BV9 := hid (show Below wr.heap.size wr V9 from by rw [← hV9]; exact bdrew1 _)
        have r10 := hid (row_on HROW.out BV9.out)
        refine wp_region_held_drew (S := (fun U => U.cell? ⟨S, 0, none⟩ = some (.int .u64 sq) ∧ U.cell? ⟨S, 4, none⟩ = some (.map (some M)) ∧ (Instr.lookup 90 (.map (some M)) (.int .u64 y) true).run Try.prog U = .ok (.tuple #[.agg #[.int .u64 m.sq, .int .i64 m.kd, .int .i64 m.sd, .int .i64 m.pr, .int .u64 m.qt, .int .i64 m.ct], .bool true]) U)) (by kernel_rfl) ?_ (fun hHeld => ?_)
        · (try dsimp only); rw [hV9]; exact ⟨row_cell r10.out 0, row_cell r10.out 4, LK.out _ BV9.out⟩
        rw [hV9] at hHeld ⊢
        clear hV9
        refine' wpAnyH_take (i := 0) (oi := _) (v := _) rfl (by kernel_rfl) (by kernel_rfl) (by kernel_rfl) (fun _ _ _ h => h) (Or.inl ⟨by kernel_rfl, ?_⟩) (by assumption) ?_
        rotate_left
        · (intro w hSw; (try dsimp only at hSw); go_simp; try (with_reducible rfl))
        try simp only [List.getElem_toArray, List.getElem_cons_succ, List.getElem_cons_zero, Act.put, List.setIfInBounds_toArray, List.set_cons_zero, List.set_cons_succ]
        refine' wpAnyH_take (i := 1) (oi := _) (v := _) rfl (by kernel_rfl) (by kernel_rfl) (by kernel_rfl) (fun _ _ _ h => h) (Or.inl ⟨by kernel_rfl, ?_⟩) (by assumption) ?_
        rotate_left
        · (intro w hSw; (try dsimp only at hSw); go_simp; try (with_reducible rfl))
        try simp only [List.getElem_toArray, List.getElem_cons_succ, List.getElem_cons_zero, Act.put, List.setIfInBounds_toArray, List.set_cons_zero, List.set_cons_succ]
        refine' wpAnyH_take (i := 2) (oi := _) (v := _) rfl (by kernel_rfl) (by kernel_rfl) (by kernel_rfl) (fun _ _ _ h => h) (Or.inl ⟨by kernel_rfl, ?_⟩) (by assumption) ?_
        rotate_left
        · (intro w hSw; (try dsimp only at hSw); go_simp; try (with_reducible rfl))
        try simp only [List.getElem_toArray, List.getElem_cons_succ, List.getElem_cons_zero, Act.put, List.setIfInBounds_toArray, List.set_cons_zero, List.set_cons_succ]
        refine' wpAnyH_take (i := 3) (oi := _) (v := _) rfl (by kernel_rfl) (by kernel_rfl) (by kernel_rfl) (fun _ _ _ h => h) (Or.inl ⟨by kernel_rfl, ?_⟩) (by assumption) ?_
        rotate_left
        · (intro w hSw; (try dsimp only at hSw); go_simp; try (with_reducible rfl))
        try simp only [List.getElem_toArray, List.getElem_cons_succ, List.getElem_cons_zero, Act.put, List.setIfInBounds_toArray, List.set_cons_zero, List.set_cons_succ]
        refine' wpAnyH_take (i := 4) (oi := _) (v := _) rfl (by kernel_rfl) (by kernel_rfl) (by kernel_rfl) (fun _ _ _ h => h) (Or.inl ⟨by kernel_rfl, ?_⟩) (by assumption) ?_
        rotate_left
        · (intro w hSw; (try dsimp only at hSw); go_simp; try (with_reducible rfl))
        try simp only [List.getElem_toArray, List.getElem_cons_succ, List.getElem_cons_zero, Act.put, List.setIfInBounds_toArray, List.set_cons_zero, List.set_cons_succ]
        refine' wpAnyH_take (i := 5) (oi := _) (v := _) rfl (by kernel_rfl) (by kernel_rfl) (by kernel_rfl) (fun _ _ _ h => h) (Or.inl ⟨by kernel_rfl, ?_⟩) (by assumption) ?_
        rotate_left
        · (intro w hSw; (try dsimp only at hSw); go_simp; try (with_reducible rfl))
        try simp only [List.getElem_toArray, List.getElem_cons_succ, List.getElem_cons_zero, Act.put, List.setIfInBounds_toArray, List.set_cons_zero, List.set_cons_succ]
        refine' wpAnyH_take (i := 6) (oi := _) (v := _) rfl (by kernel_rfl) (by kernel_rfl) (by kernel_rfl) (fun _ _ _ h => h) (Or.inl ⟨by kernel_rfl, ?_⟩) (by assumption) ?_
        rotate_left
        · (intro w hSw; (try dsimp only at hSw); go_simp; try (with_reducible rfl))
        try simp only [List.getElem_toArray, List.getElem_cons_succ, List.getElem_cons_zero, Act.put, List.setIfInBounds_toArray, List.set_cons_zero, List.set_cons_succ]
        refine' wpAnyH_take (i := 7) (oi := _) (v := _) rfl (by kernel_rfl) (by kernel_rfl) (by kernel_rfl) (fun _ _ _ h => h) (Or.inl ⟨by kernel_rfl, ?_⟩) (by assumption) ?_
        rotate_left
        · (intro w hSw; (try dsimp only at hSw); go_simp; try (with_reducible rfl))
        try simp only [List.getElem_toArray, List.getElem_cons_succ, List.getElem_cons_zero, Act.put, List.setIfInBounds_toArray, List.set_cons_zero, List.set_cons_succ]
        refine' wpAnyH_take (i := 8) (oi := _) (v := _) rfl (by kernel_rfl) (by kernel_rfl) (by kernel_rfl) (fun _ _ _ h => h) (Or.inl ⟨by kernel_rfl, ?_⟩) (by assumption) ?_
        rotate_left
        · (intro w hSw; (try dsimp only at hSw); go_simp; try (with_reducible rfl))
        try simp only [List.getElem_toArray, List.getElem_cons_succ, List.getElem_cons_zero, Act.put, List.setIfInBounds_toArray, List.set_cons_zero, List.set_cons_succ]
        refine' wpAnyH_take (i := 9) (oi := _) (v := _) rfl (by kernel_rfl) (by kernel_rfl) (by kernel_rfl) (fun _ _ _ h => h) (Or.inl ⟨by kernel_rfl, ?_⟩) (by assumption) ?_
        rotate_left
        · (intro w hSw; (try dsimp only at hSw); go_simp; try (with_reducible rfl))
        try simp only [List.getElem_toArray, List.getElem_cons_succ, List.getElem_cons_zero, Act.put, List.setIfInBounds_toArray, List.set_cons_zero, List.set_cons_succ]
        refine' wpAnyH_take (i := 10) (oi := _) (v := _) rfl (by kernel_rfl) (by kernel_rfl) (by kernel_rfl) (fun _ _ _ h => h) (Or.inl ⟨by kernel_rfl, ?_⟩) (by assumption) ?_
        rotate_left
        · (intro w hSw; (try dsimp only at hSw); go_simp; try (with_reducible rfl))
        try simp only [List.getElem_toArray, List.getElem_cons_succ, List.getElem_cons_zero, Act.put, List.setIfInBounds_toArray, List.set_cons_zero, List.set_cons_succ]
        refine' wpAnyH_take (i := 11) (oi := _) (v := _) rfl (by kernel_rfl) (by kernel_rfl) (by kernel_rfl) (fun _ _ _ h => h) (Or.inl ⟨by kernel_rfl, ?_⟩) (by assumption) ?_
        rotate_left
        · (intro w hSw; (try dsimp only at hSw); go_simp; try (with_reducible rfl))
        try simp only [List.getElem_toArray, List.getElem_cons_succ, List.getElem_cons_zero, Act.put, List.setIfInBounds_toArray, List.set_cons_zero, List.set_cons_succ]
        refine' wpAnyH_take (i := 12) (oi := _) (v := _) rfl (by kernel_rfl) (by kernel_rfl) (by kernel_rfl) (fun _ _ _ h => h) (Or.inl ⟨by kernel_rfl, ?_⟩) (by assumption) ?_
        rotate_left
        · (intro w hSw; (try dsimp only at hSw); go_simp; try (with_reducible rfl))
        try simp only [List.getElem_toArray, List.getElem_cons_succ, List.getElem_cons_zero, Act.put, List.setIfInBounds_toArray, List.set_cons_zero, List.set_cons_succ]
        refine' wpAnyH_take (i := 13) (oi := _) (v := _) rfl (by kernel_rfl) (by kernel_rfl) (by kernel_rfl) (fun _ _ _ h => h) (Or.inl ⟨by kernel_rfl, ?_⟩) (by assumption) ?_
        rotate_left
        · (intro w hSw; (try dsimp only at hSw); go_simp; try (with_reducible rfl))
        try simp only [List.getElem_toArray, List.getElem_cons_succ, List.getElem_cons_zero, Act.put, List.setIfInBounds_toArray, List.set_cons_zero, List.set_cons_succ]
        refine wpAnyH_ready (rs := [14]) (by kernel_rfl) (by simp) ?_
        refine (AllReadyH.cons (o := _) rfl (fun K hK => ?_) AllReadyH.nil)
        go_simp
        obtain ⟨X11, hX11⟩ : ∃ X, V9.alloc (.cells #[.int .u64 0, .int .i64 0, .int .i64 0, .int .i64 0, .int .u64 0, .int .i64 0] 48) = X := ⟨_, rfl⟩
        have bX11 : Below V9.heap.size V9 X11 := by rw [← hX11]; exact ball _ _
        have r13 := hid (row_on r10.out bX11)
        have DX11 := hid (btr BV9.out bX11)
        have zX11 : X11.heap[V9.heap.size]? = some (.cells #[.int .u64 0, .int .i64 0, .int .i64 0, .int .i64 0, .int .u64 0, .int .i64 0] 48 (0, 0)) := by rw [← hX11]; exact World.alloc_heap_new _ _
        have yg12 := BV9.out.size
        obtain ⟨g12, hg12⟩ : ∃ g, V9.heap.size = g := ⟨_, rfl⟩
        have n14 : g12 ≠ S := by have := row_lt r10.out; omega
        rw [hg12] at zX11 yg12
        have ZX11 := hid zX11
        rw [hX11, hg12]
        clear hX11 hg12 zX11 bX11
        refine hK.out _ _ ?_ (fun hHeld => ?_)
        · (try dsimp only); exact ⟨row_cell r13.out 0, row_cell r13.out 4, LK.out _ DX11.out⟩
        clear hK K
        try simp only [List.getElem_toArray, List.getElem_cons_succ, List.getElem_cons_zero, Act.put, List.setIfInBounds_toArray, List.set_cons_zero, List.set_cons_succ]
        refine wpAnyH_ready (rs := [15]) (by kernel_rfl) (by simp) ?_
        refine (AllReadyH.cons (o := _) rfl (fun K hK => ?_) AllReadyH.nil)
        refine step_store_row (by rfl) 48 (.tmp 2) (.tmp 16) (by rfl) g12 #[.int .u64 m.sq, .int .i64 m.kd, .int .i64 m.sd, .int .i64 m.pr, .int .u64 m.qt, .int .i64 m.ct] (by rfl) (by rfl) 48 _ ZX11.out infoD (by rfl) (by simp [Value.oneCell']) ?_
        obtain ⟨Y15, hY15⟩ : ∃ Y, X11.setRow g12 #[.int .u64 m.sq, .int .i64 m.kd, .int .i64 m.sd, .int .i64 m.pr, .int .u64 m.qt, .int .i64 m.ct] = Y := ⟨_, rfl⟩
        have KY15 := hid (show Kp (fun j => j = g12) X11 Y15 from by rw [← hY15]; exact setRow_kp _ _ _)
        have AY15 := hid (show Y15.heap[g12]? = some (.cells #[.int .u64 m.sq, .int .i64 m.kd, .int .i64 m.sd, .int .i64 m.pr, .int .u64 m.qt, .int .i64 m.ct] 48 (0, 0)) from by rw [← hY15]; exact setRow_heap X11 g12 _ _ 48 (0, 0) ZX11.out)
        have DY15 := hid (show Below wr.heap.size wr Y15 from by rw [← hY15]; exact setRow_below DX11.out yg12)
        have r16 := hid (KY15.out.row r13.out (fun e => n14.symm e))
        rw [hY15]
        refine hK.out _ _ ?_ (fun hHeld => ?_)
        · (try dsimp only); exact ⟨row_cell r16.out 0, row_cell r16.out 4, LK.out _ DY15.out⟩
        clear hK K hY15
        try simp only [List.getElem_toArray, List.getElem_cons_succ, List.getElem_cons_zero, Act.put, List.setIfInBounds_toArray, List.set_cons_zero, List.set_cons_succ]
        refine' wpAnyH_take (i := 16) (oi := _) (v := _) rfl (by kernel_rfl) (by kernel_rfl) (by kernel_rfl) (fun _ _ _ h => h) (Or.inl ⟨by kernel_rfl, ?_⟩) (by assumption) ?_
        rotate_left
        · (intro w hSw; (try dsimp only at hSw); go_simp; try (with_reducible rfl))
        try simp only [List.getElem_toArray, List.getElem_cons_succ, List.getElem_cons_zero, Act.put, List.setIfInBounds_toArray, List.set_cons_zero, List.set_cons_succ]
        refine wpAnyH_done (by kernel_rfl) ?_ _
        exact ⟨g12, by kernel_rfl, DY15, AY15⟩
      · rintro P V ⟨BV, HP⟩
        try simp only [List.getElem_toArray, List.getElem_cons_succ, List.getElem_cons_zero, Act.put, List.setIfInBounds_toArray, List.set_cons_zero, List.set_cons_succ]
        clear LK HROW
        have HSV := hid (HU.out.sb.on BV.out)
        obtain ⟨V2, hrun, hm2, hk2⟩ := (HSV.out.hm.on (bdrew1 V)).del HG.out.nd m.sq HFM.out.2.1 0
        have HM2 := hid hm2
        have HK2 := hid hk2
        obtain ⟨k0, k1, k2, k3, k4, k5⟩ := row12 HSV.out.row
        obtain ⟨j0, j1, j2, j3, j4, j5⟩ := row6 HP.out
        clear hm2 hk2 k0 k1 k2 k3 k5 hy
        go_upto_region 2 with fail
        go_region_law fail
        all_goals
          have hs := HSV.out.on (bdrew1 V)
          have HS2 := hid (show Su V2 S M nm hold ⟨sq, gr, l1, l2, L.filter (fun d => d.sq != m.sq), la⟩ q1 e1 q2 e2 from ⟨⟨HK2.out.row hs.row (fun e => map_ne hs.hm hs.row e.symm), hs.o1.kept HK2.out (fun g hg e => by obtain ⟨cu, hc⟩ := hs.o1.ty hg; exact map_ne hs.hm hc e.symm), hs.o2.kept HK2.out (fun g hg e => by obtain ⟨cu, hc⟩ := hs.o2.ty hg; exact map_ne hs.hm hc e.symm), hs.k1, hs.k2, HM2.out, hs.sq, hs.gr⟩, HU.out.ap⟩)
          have HP2 := hid (HK2.out.row (row_on HP.out (bdrew1 V)) (fun e => map_ne hs.hm (row_on HP.out (bdrew1 V)) e.symm))
          clear hs hrun j0 j1 j2 j3 j4 j5 k4
          obtain ⟨j0, j1, j2, j3, j4, j5⟩ := row6 HP2.out
          have CD := hid (do_any HS2.out m HFM.out.1 HFM.out.2.1)
          go_upto_region 3 with fail
          go_wp2_with (go_at_call 59; with_reducible refine (CD.out).mono ?_; rintro e V3 ⟨rfl, r1, f1, r2, f2, h1, h2, h3, h4⟩; have HS3 := hid h1; have HK3 := hid h2; have HF3 := hid h3; have HF4 := hid h4; clear h1 h2 h3 h4)
          go_roundg ((nxS ⟨sq, gr, l1, l2, L, la⟩).L.length)
          case measure =>
            have := HK.out
            rw [← this]
            exact wo_lt HX.out
          case rel =>
            have kk : Kp (fun g => g = M) wr V2 := (Kp.of _ (btr BV.out (bdrew1 V))).trans HK2.out (fun _ _ h => h)
            have sz : wr.heap.size ≤ V2.heap.size := kk.size
            refine ⟨nxS ⟨sq, gr, l1, l2, L, la⟩, r1, f1, r2, f2, by rw [HNX.out]; exact HS3.out, HG.out.nxS HX.out, by rw [← goS_yes HX.out]; exact HE.out, rfl, ?_, ?_, ?_⟩
            · refine (HKP.out.trans kk (fun _ _ h => .inr (.inl h))).trans HK3.out (fun g hg h => ?_)
              rcases h with h | h | h
              · exact .inl h
              · rcases HF1.out g h with h | h
                · exact .inr (.inr (.inl h))
                · omega
              · rcases HF2.out g h with h | h
                · exact .inr (.inr (.inr h))
                · omega
            · intro g hg
              rcases HF3.out g hg with h | h
              · exact HF1.out g h
              · exact .inr (Nat.le_trans HKP.out.size (Nat.le_trans sz h))
            · intro g hg
              rcases HF4.out g hg with h | h
              · exact HF2.out g h
              · exact .inr (Nat.le_trans HKP.out.size (Nat.le_trans sz h))
end Go.Proofs.Ytiphgfghdbmlcaa
