/-
  FhF
-/
import Derived.Test.YtojmcfkbekodpaaHc
import Derived.Test.YtojmcfkbekodpaaGr
import Derived.Deep.LoopGhost
import Derived.Test.YtojmcfkbekodpaaFgG
namespace Go.Proofs.Ytojmcfkbekodpaa.Fd
open Go.RowKit Go.Deep
set_option linter.unusedVariables false
set_option linter.unusedSimpArgs false
set_option maxHeartbeats 8000000
set_option maxRecDepth 100000
attribute [local go_sem ↓] Go.wp_at_zero Go.wp_at_succ
/-- behind a call: the subscriber, and what was left alone. -/
def Bhd (w : World) (S M nm hold : Nat) (s : Ss) (p1 p2 : Option Addr) (w' : World) : Prop := ∃ q1 e1 q2 e2, Su w' S M nm hold s q1 e1 q2 e2 ∧ Kp (fun g => g = S ∨ g = M ∨ OfP p1 g ∨ OfP p2 g) w w' ∧ Fr w.heap.size p1 q1 ∧ Fr w.heap.size p2 q2
theorem catch_any {w : World} {S M nm hold : Nat} {s : Ss} {p1 p2 : Option Addr} {c1 c2 : Nat} (h : Su w S M nm hold s p1 c1 p2 c2) (hg : Sg hold s) :
    Calls Try.prog 42 #[.pointer (some ⟨S, 0, none⟩)] w fun e w' => e = .returned (.tuple #[]) ∧ Bhd w S M nm hold (goS s) p1 p2 w' := by
  obtain ⟨G, hG⟩ : ∃ G, goS s = G := ⟨_, rfl⟩
  rw [hG]
  have H0 := hid h
  have HG0 := hid hg
  have HGG := hid hG
  clear h hg hG
  go_enter Try.func42, Try.ntmps42
  go_wp2
  go_loopg [] (s.L.length) (fun k wr => ∃ (t : Ss) (q1 : Option Addr) (e1 : Nat) (q2 : Option Addr) (e2 : Nat), Hid (Su wr S M nm hold t q1 e1 q2 e2) ∧ Hid (Sg hold t) ∧ Hid (goS t = G) ∧ Hid (t.L.length = k) ∧ Hid (Kp (fun g => g = S ∨ g = M ∨ OfP p1 g ∨ OfP p2 g) w wr) ∧ Hid (Fr w.heap.size p1 q1) ∧ Hid (Fr w.heap.size p2 q2))
  case atStart => exact ⟨s, p1, c1, p2, c2, H0.out, HG0.out, HGG.out, rfl, Kp.refl _ _, Fr.refl _ _, Fr.refl _ _⟩
  case round =>
    obtain ⟨t, q1, e1, q2, e2, HU, HG, HE, HK, HKP, HF1, HF2⟩ := hrel
    clear H0 HG0 HGG
    obtain ⟨sq, gr, l1, l2, L, la⟩ := t
    obtain ⟨y, hy⟩ : ∃ y, IntKind.u64.wrap (sq + 1) = y := ⟨_, rfl⟩
    have hyr : 0 ≤ y ∧ y < 18446744073709551616 := by rw [← hy]; exact uw_rng _
    have HROW := hid (show wr.heap[S]? = some (.cells #[.int .u64 sq, .slice q1 l1.length e1, .slice q2 l2.length e2, .int .i64 hold, .map (some M), .int .u64 gr, .int .u64 la.sq, .int .i64 la.kd, .int .i64 la.sd, .int .i64 la.pr, .int .u64 la.qt, .int .i64 la.ct] 105 (0, 0)) from HU.out.sb.row)
    cases hx : hasN L y with
    | false =>
      have LK := hid (show ∀ U, Below wr.heap.size wr U → (Instr.lookup 103 (.map (some M)) (.int .u64 y) true).run Try.prog U = .ok (.tuple #[.agg #[.int .u64 dm0.sq, .int .i64 dm0.kd, .int .i64 dm0.sd, .int .i64 dm0.pr, .int .u64 dm0.qt, .int .i64 dm0.ct], .bool false]) U from fun U hU => by
        have := (HU.out.sb.hm.on hU).look y hyr
        rw [show L.any (fun d => d.sq == y) = false from hx, fnd_not hx] at this
        exact this)
      have HN := hid (show G = ⟨sq, gr, l1, l2, L, la⟩ from by rw [← HE.out]; exact goS_no (by rw [show uw (sq + 1) = y from hy]; exact hx))
      clear hx hyr
      go_upto_region 0 with fail
      refine reg_cut (X := Nat) (fun a t => ((((((((((((((((a.put (some 5) (.pointer (some ⟨S, 0, none⟩))).put (some 6) (.pointer (some ⟨S, 0, none⟩))).put (some 7) (.pointer (some ⟨S, 4, none⟩))).put (some 8) (.map (some M))).put (some 9) (.pointer (some ⟨S, 0, none⟩))).put (some 10) (.pointer (some ⟨S, 0, none⟩))).put (some 11) (.pointer (some ⟨S, 0, none⟩))).put (some 12) (.pointer (some ⟨S, 0, none⟩))).put (some 13) (.int .u64 sq)).put (some 14) (.int .u64 y)).put (some 15) (.tuple #[.agg #[.int .u64 dm0.sq, .int .i64 dm0.kd, .int .i64 dm0.sd, .int .i64 dm0.pr, .int .u64 dm0.qt, .int .i64 dm0.ct], .bool false])).put (some 4) (.tuple #[.agg #[.int .u64 dm0.sq, .int .i64 dm0.kd, .int .i64 dm0.sd, .int .i64 dm0.pr, .int .u64 dm0.qt, .int .i64 dm0.ct], .bool false])).put (some 16) (.agg #[.int .u64 dm0.sq, .int .i64 dm0.kd, .int .i64 dm0.sd, .int .i64 dm0.pr, .int .u64 dm0.qt, .int .i64 dm0.ct])).put (some 17) (.bool false)).put (some 2) (.pointer (some ⟨t, 0, none⟩))).put (some 3) (.bool false))) (fun t V => Hid (Below wr.heap.size wr V) ∧ Hid (V.heap[t]? = some (.cells #[.int .u64 dm0.sq, .int .i64 dm0.kd, .int .i64 dm0.sd, .int .i64 dm0.pr, .int .u64 dm0.qt, .int .i64 dm0.ct] 47 (0, 0)))) ?_ ?_
      · obtain ⟨V1, hV1⟩ : ∃ U, wr.drew = U := ⟨_, rfl⟩
        have BV1 := hid (show Below wr.heap.size wr V1 from by rw [← hV1]; exact bdrew1 _)
        have r2 := hid (row_on HROW.out BV1.out)
        refine wp_region_held_drew (S := (fun U => U.cell? ⟨S, 0, none⟩ = some (.int .u64 sq) ∧ U.cell? ⟨S, 4, none⟩ = some (.map (some M)) ∧ (Instr.lookup 103 (.map (some M)) (.int .u64 y) true).run Try.prog U = .ok (.tuple #[.agg #[.int .u64 dm0.sq, .int .i64 dm0.kd, .int .i64 dm0.sd, .int .i64 dm0.pr, .int .u64 dm0.qt, .int .i64 dm0.ct], .bool false]) U)) (by kernel_rfl) ?_ (fun hHeld => ?_)
        · (try dsimp only); rw [hV1]; exact ⟨row_cell r2.out 0, row_cell r2.out 4, LK.out _ BV1.out⟩
        rw [hV1] at hHeld ⊢
        clear hV1
        refine' wpAnyH_take (i := 0) (oi := _) (v := _) rfl (by kernel_rfl) (by kernel_rfl) (by kernel_rfl) (fun _ _ _ h => h) (Or.inl ⟨by kernel_rfl, ?_⟩) (by assumption) ?_
        rotate_left
        · (intro w hSw; (try dsimp only at hSw); go_simp; try (with_reducible rfl))
        try simp only [List.getElem_toArray, List.getElem_cons_succ, List.getElem_cons_zero, Act.put, List.setIfInBounds_toArray, List.set_cons_zero, List.set_cons_succ]
        refine' wpAnyH_take (i := 1) (oi := _) (v := _) rfl (by kernel_rfl) (by kernel_rfl) (by kernel_rfl) (fun _ _ _ h => h) (Or.inl ⟨by kernel_rfl, ?_⟩) (by assumption) ?_
        rotate_left
        · (intro w hSw; (try dsimp only at hSw); go_simp; try (with_reducible rfl))
        try simp only [List.getElem_toArray, List.getElem_cons_succ, List.getElem_cons_zero, Act.put, List.setIfInBounds_toArray, List.set_cons_zero, List.set_cons_succ]
        refine' wpAnyH_take (i := 2) (oi := _) (v := _) rfl (by kernel_rfl) (by kernel_rfl) (by kernel_rfl) (fun _ _ _ h => h) (Or.inl ⟨by kernel_rfl, ?_⟩) (by assumption) ?_
        rotate_left
        · (intro w hSw; (try dsimp only at hSw); go_simp; try (with_reducible rfl))
        try simp only [List.getElem_toArray, List.getElem_cons_succ, List.getElem_cons_zero, Act.put, List.setIfInBounds_toArray, List.set_cons_zero, List.set_cons_succ]
        refine' wpAnyH_take (i := 3) (oi := _) (v := _) rfl (by kernel_rfl) (by kernel_rfl) (by kernel_rfl) (fun _ _ _ h => h) (Or.inl ⟨by kernel_rfl, ?_⟩) (by assumption) ?_
        rotate_left
        · (intro w hSw; (try dsimp only at hSw); go_simp; try (with_reducible rfl))
        try simp only [List.getElem_toArray, List.getElem_cons_succ, List.getElem_cons_zero, Act.put, List.setIfInBounds_toArray, List.set_cons_zero, List.set_cons_succ]
        refine' wpAnyH_take (i := 4) (oi := _) (v := _) rfl (by kernel_rfl) (by kernel_rfl) (by kernel_rfl) (fun _ _ _ h => h) (Or.inl ⟨by kernel_rfl, ?_⟩) (by assumption) ?_
        rotate_left
        · (intro w hSw; (try dsimp only at hSw); go_simp; try (with_reducible rfl))
        try simp only [List.getElem_toArray, List.getElem_cons_succ, List.getElem_cons_zero, Act.put, List.setIfInBounds_toArray, List.set_cons_zero, List.set_cons_succ]
        refine' wpAnyH_take (i := 5) (oi := _) (v := _) rfl (by kernel_rfl) (by kernel_rfl) (by kernel_rfl) (fun _ _ _ h => h) (Or.inl ⟨by kernel_rfl, ?_⟩) (by assumption) ?_
        rotate_left
        · (intro w hSw; (try dsimp only at hSw); go_simp; try (with_reducible rfl))
        try simp only [List.getElem_toArray, List.getElem_cons_succ, List.getElem_cons_zero, Act.put, List.setIfInBounds_toArray, List.set_cons_zero, List.set_cons_succ]
        refine' wpAnyH_take (i := 6) (oi := _) (v := _) rfl (by kernel_rfl) (by kernel_rfl) (by kernel_rfl) (fun _ _ _ h => h) (Or.inl ⟨by kernel_rfl, ?_⟩) (by assumption) ?_
        rotate_left
        · (intro w hSw; (try dsimp only at hSw); go_simp; try (with_reducible rfl))
        try simp only [List.getElem_toArray, List.getElem_cons_succ, List.getElem_cons_zero, Act.put, List.setIfInBounds_toArray, List.set_cons_zero, List.set_cons_succ]
        refine' wpAnyH_take (i := 7) (oi := _) (v := _) rfl (by kernel_rfl) (by kernel_rfl) (by kernel_rfl) (fun _ _ _ h => h) (Or.inl ⟨by kernel_rfl, ?_⟩) (by assumption) ?_
        rotate_left
        · (intro w hSw; (try dsimp only at hSw); go_simp; try (with_reducible rfl))
        try simp only [List.getElem_toArray, List.getElem_cons_succ, List.getElem_cons_zero, Act.put, List.setIfInBounds_toArray, List.set_cons_zero, List.set_cons_succ]
        refine' wpAnyH_take (i := 8) (oi := _) (v := _) rfl (by kernel_rfl) (by kernel_rfl) (by kernel_rfl) (fun _ _ _ h => h) (Or.inl ⟨by kernel_rfl, ?_⟩) (by assumption) ?_
        rotate_left
        · (intro w hSw; (try dsimp only at hSw); go_simp; try (with_reducible rfl))
        try simp only [List.getElem_toArray, List.getElem_cons_succ, List.getElem_cons_zero, Act.put, List.setIfInBounds_toArray, List.set_cons_zero, List.set_cons_succ]
        refine' wpAnyH_take (i := 9) (oi := _) (v := _) rfl (by kernel_rfl) (by kernel_rfl) (by kernel_rfl) (fun _ _ _ h => h) (Or.inl ⟨by kernel_rfl, ?_⟩) (by assumption) ?_
        rotate_left
        · (intro w hSw; (try dsimp only at hSw); go_simp; try (with_reducible rfl))
        try simp only [List.getElem_toArray, List.getElem_cons_succ, List.getElem_cons_zero, Act.put, List.setIfInBounds_toArray, List.set_cons_zero, List.set_cons_succ]
        refine' wpAnyH_take (i := 10) (oi := _) (v := _) rfl (by kernel_rfl) (by kernel_rfl) (by kernel_rfl) (fun _ _ _ h => h) (Or.inl ⟨by kernel_rfl, ?_⟩) (by assumption) ?_
        rotate_left
        · (intro w hSw; (try dsimp only at hSw); go_simp; try (with_reducible rfl))
        try simp only [List.getElem_toArray, List.getElem_cons_succ, List.getElem_cons_zero, Act.put, List.setIfInBounds_toArray, List.set_cons_zero, List.set_cons_succ]
        refine' wpAnyH_take (i := 11) (oi := _) (v := _) rfl (by kernel_rfl) (by kernel_rfl) (by kernel_rfl) (fun _ _ _ h => h) (Or.inl ⟨by kernel_rfl, ?_⟩) (by assumption) ?_
        rotate_left
        · (intro w hSw; (try dsimp only at hSw); go_simp; try (with_reducible rfl))
        try simp only [List.getElem_toArray, List.getElem_cons_succ, List.getElem_cons_zero, Act.put, List.setIfInBounds_toArray, List.set_cons_zero, List.set_cons_succ]
        refine' wpAnyH_take (i := 12) (oi := _) (v := _) rfl (by kernel_rfl) (by kernel_rfl) (by kernel_rfl) (fun _ _ _ h => h) (Or.inl ⟨by kernel_rfl, ?_⟩) (by assumption) ?_
        rotate_left
        · (intro w hSw; (try dsimp only at hSw); go_simp; try (with_reducible rfl))
        try simp only [List.getElem_toArray, List.getElem_cons_succ, List.getElem_cons_zero, Act.put, List.setIfInBounds_toArray, List.set_cons_zero, List.set_cons_succ]
        refine' wpAnyH_take (i := 13) (oi := _) (v := _) rfl (by kernel_rfl) (by kernel_rfl) (by kernel_rfl) (fun _ _ _ h => h) (Or.inl ⟨by kernel_rfl, ?_⟩) (by assumption) ?_
        rotate_left
        · (intro w hSw; (try dsimp only at hSw); go_simp; try (with_reducible rfl))
        try simp only [List.getElem_toArray, List.getElem_cons_succ, List.getElem_cons_zero, Act.put, List.setIfInBounds_toArray, List.set_cons_zero, List.set_cons_succ]
        refine wpAnyH_ready (rs := [14]) (by kernel_rfl) (by simp) ?_
        refine (AllReadyH.cons (o := _) rfl (fun K hK => ?_) AllReadyH.nil)
        go_simp
        obtain ⟨X3, hX3⟩ : ∃ X, V1.alloc (.cells #[.int .u64 0, .int .i64 0, .int .i64 0, .int .i64 0, .int .u64 0, .int .i64 0] 47) = X := ⟨_, rfl⟩
        have bX3 : Below V1.heap.size V1 X3 := by rw [← hX3]; exact ball _ _
        have r5 := hid (row_on r2.out bX3)
        have DX3 := hid (btr BV1.out bX3)
        have zX3 : X3.heap[V1.heap.size]? = some (.cells #[.int .u64 0, .int .i64 0, .int .i64 0, .int .i64 0, .int .u64 0, .int .i64 0] 47 (0, 0)) := by rw [← hX3]; exact World.alloc_heap_new _ _
        have yg4 := BV1.out.size
        obtain ⟨g4, hg4⟩ : ∃ g, V1.heap.size = g := ⟨_, rfl⟩
        have n6 : g4 ≠ S := by have := row_lt r2.out; omega
        rw [hg4] at zX3 yg4
        have ZX3 := hid zX3
        rw [hX3, hg4]
        clear hX3 hg4 zX3 bX3
        refine hK.out _ _ ?_ (fun hHeld => ?_)
        · (try dsimp only); exact ⟨row_cell r5.out 0, row_cell r5.out 4, LK.out _ DX3.out⟩
        clear hK K
        try simp only [List.getElem_toArray, List.getElem_cons_succ, List.getElem_cons_zero, Act.put, List.setIfInBounds_toArray, List.set_cons_zero, List.set_cons_succ]
        refine wpAnyH_ready (rs := [15]) (by kernel_rfl) (by simp) ?_
        refine (AllReadyH.cons (o := _) rfl (fun K hK => ?_) AllReadyH.nil)
        refine step_store_row (by rfl) 47 (.tmp 2) (.tmp 16) (by rfl) g4 #[.int .u64 dm0.sq, .int .i64 dm0.kd, .int .i64 dm0.sd, .int .i64 dm0.pr, .int .u64 dm0.qt, .int .i64 dm0.ct] (by rfl) (by rfl) 47 _ ZX3.out infoD (by rfl) (by simp [Value.oneCell']) ?_
        obtain ⟨Y7, hY7⟩ : ∃ Y, X3.setRow g4 #[.int .u64 dm0.sq, .int .i64 dm0.kd, .int .i64 dm0.sd, .int .i64 dm0.pr, .int .u64 dm0.qt, .int .i64 dm0.ct] = Y := ⟨_, rfl⟩
        have KY7 := hid (show Kp (fun j => j = g4) X3 Y7 from by rw [← hY7]; exact setRow_kp _ _ _)
        have AY7 := hid (show Y7.heap[g4]? = some (.cells #[.int .u64 dm0.sq, .int .i64 dm0.kd, .int .i64 dm0.sd, .int .i64 dm0.pr, .int .u64 dm0.qt, .int .i64 dm0.ct] 47 (0, 0)) from by rw [← hY7]; exact setRow_heap X3 g4 _ _ 47 (0, 0) ZX3.out)
        have DY7 := hid (show Below wr.heap.size wr Y7 from by rw [← hY7]; exact setRow_below DX3.out yg4)
        have r8 := hid (KY7.out.row r5.out (fun e => n6.symm e))
        rw [hY7]
        refine hK.out _ _ ?_ (fun hHeld => ?_)
        · (try dsimp only); exact ⟨row_cell r8.out 0, row_cell r8.out 4, LK.out _ DY7.out⟩
        clear hK K hY7
        try simp only [List.getElem_toArray, List.getElem_cons_succ, List.getElem_cons_zero, Act.put, List.setIfInBounds_toArray, List.set_cons_zero, List.set_cons_succ]
        refine' wpAnyH_take (i := 16) (oi := _) (v := _) rfl (by kernel_rfl) (by kernel_rfl) (by kernel_rfl) (fun _ _ _ h => h) (Or.inl ⟨by kernel_rfl, ?_⟩) (by assumption) ?_
        rotate_left
        · (intro w hSw; (try dsimp only at hSw); go_simp; try (with_reducible rfl))
        try simp only [List.getElem_toArray, List.getElem_cons_succ, List.getElem_cons_zero, Act.put, List.setIfInBounds_toArray, List.set_cons_zero, List.set_cons_succ]
        refine wpAnyH_done (by kernel_rfl) ?_ _
        exact ⟨g4, by kernel_rfl, DY7, AY7⟩
      · rintro P V ⟨BV, HP⟩
        try simp only [List.getElem_toArray, List.getElem_cons_succ, List.getElem_cons_zero, Act.put, List.setIfInBounds_toArray, List.set_cons_zero, List.set_cons_succ]
        go_wp2
        refine bodyPost_ret (results_none rfl _ _ _) rfl ?_
        refine ⟨rfl, q1, e1, q2, e2, by rw [HN.out]; exact HU.out.on BV.out, HKP.out.trans (Kp.of (fun _ => False) BV.out) (fun _ _ h => h.elim), HF1.out, HF2.out⟩
    | true =>
      obtain ⟨m, hm⟩ : ∃ m, fnd L y = m := ⟨_, rfl⟩
      have hfm := HG.out.fnd (k := y) hx
      dsimp only at hfm
      rw [hm] at hfm
      have LK := hid (show ∀ U, Below wr.heap.size wr U → (Instr.lookup 103 (.map (some M)) (.int .u64 y) true).run Try.prog U = .ok (.tuple #[.agg #[.int .u64 m.sq, .int .i64 m.kd, .int .i64 m.sd, .int .i64 m.pr, .int .u64 m.qt, .int .i64 m.ct], .bool true]) U from fun U hU => by
        have := (HU.out.sb.hm.on hU).look y hyr
        rw [show L.any (fun d => d.sq == y) = true from hx, hm] at this
        exact this)
      have HX := hid (show hasN L (uw (sq + 1)) = true from by rw [show uw (sq + 1) = y from hy]; exact hx)
      have HNX := hid (show nxS ⟨sq, gr, l1, l2, L, la⟩ = doS ⟨sq, gr, l1, l2, L.filter (fun d => d.sq != m.sq), la⟩ m from by
        unfold nxS
        dsimp only
        rw [show uw (sq + 1) = y from hy, hm, hfm.2.2.1]
        rfl)
      have HFM := hid hfm
      clear hx hyr hm hfm
      go_upto_region 0 with fail
      refine reg_cut (X := Nat) (fun a t => ((((((((((((((((a.put (some 5) (.pointer (some ⟨S, 0, none⟩))).put (some 6) (.pointer (some ⟨S, 0, none⟩))).put (some 7) (.pointer (some ⟨S, 4, none⟩))).put (some 8) (.map (some M))).put (some 9) (.pointer (some ⟨S, 0, none⟩))).put (some 10) (.pointer (some ⟨S, 0, none⟩))).put (some 11) (.pointer (some ⟨S, 0, none⟩))).put (some 12) (.pointer (some ⟨S, 0, none⟩))).put (some 13) (.int .u64 sq)).put (some 14) (.int .u64 y)).put (some 15) (.tuple #[.agg #[.int .u64 m.sq, .int .i64 m.kd, .int .i64 m.sd, .int .i64 m.pr, .int .u64 m.qt, .int .i64 m.ct], .bool true])).put (some 4) (.tuple #[.agg #[.int .u64 m.sq, .int .i64 m.kd, .int .i64 m.sd, .int .i64 m.pr, .int .u64 m.qt, .int .i64 m.ct], .bool true])).put (some 16) (.agg #[.int .u64 m.sq, .int .i64 m.kd, .int .i64 m.sd, .int .i64 m.pr, .int .u64 m.qt, .int .i64 m.ct])).put (some 17) (.bool true)).put (some 2) (.pointer (some ⟨t, 0, none⟩))).put (some 3) (.bool true))) (fun t V => Hid (Below wr.heap.size wr V) ∧ Hid (V.heap[t]? = some (.cells #[.int .u64 m.sq, .int .i64 m.kd, .int .i64 m.sd, .int .i64 m.pr, .int .u64 m.qt, .int .i64 m.ct] 47 (0, 0)))) ?_ ?_
      · obtain ⟨V9, hV9⟩ : ∃ U, wr.drew = U := ⟨_, rfl⟩
        have BV9 := hid (show Below wr.heap.size wr V9 from by rw [← hV9]; exact bdrew1 _)
        have r10 := hid (row_on HROW.out BV9.out)
        refine wp_region_held_drew (S := (fun U => U.cell? ⟨S, 0, none⟩ = some (.int .u64 sq) ∧ U.cell? ⟨S, 4, none⟩ = some (.map (some M)) ∧ (Instr.lookup 103 (.map (some M)) (.int .u64 y) true).run Try.prog U = .ok (.tuple #[.agg #[.int .u64 m.sq, .int .i64 m.kd, .int .i64 m.sd, .int .i64 m.pr, .int .u64 m.qt, .int .i64 m.ct], .bool true]) U)) (by kernel_rfl) ?_ (fun hHeld => ?_)
        · (try dsimp only); rw [hV9]; exact ⟨row_cell r10.out 0, row_cell r10.out 4, LK.out _ BV9.out⟩
        rw [hV9] at hHeld ⊢
        clear hV9
        refine' wpAnyH_take (i := 0) (oi := _) (v := _) rfl (by kernel_rfl) (by kernel_rfl) (by kernel_rfl) (fun _ _ _ h => h) (Or.inl ⟨by kernel_rfl, ?_⟩) (by assumption) ?_
        rotate_left
        · (intro w hSw; (try dsimp only at hSw); go_simp; try (with_reducible rfl))
        try simp only [List.getElem_toArray, List.getElem_cons_succ, List.getElem_cons_zero, Act.put, List.setIfInBounds_toArray, List.set_cons_zero, List.set_cons_succ]
        refine' wpAnyH_take (i := 1) (oi := _) (v := _) rfl (by kernel_rfl) (by kernel_rfl) (by kernel_rfl) (fun _ _ _ h => h) (Or.inl ⟨by kernel_rfl, ?_⟩) (by assumption) ?_
        rotate_left
        · (intro w hSw; (try dsimp only at hSw); go_simp; try (with_reducible rfl))
        try simp only [List.getElem_toArray, List.getElem_cons_succ, List.getElem_cons_zero, Act.put, List.setIfInBounds_toArray, List.set_cons_zero, List.set_cons_succ]
        refine' wpAnyH_take (i := 2) (oi := _) (v := _) rfl (by kernel_rfl) (by kernel_rfl) (by kernel_rfl) (fun _ _ _ h => h) (Or.inl ⟨by kernel_rfl, ?_⟩) (by assumption) ?_
        rotate_left
        · (intro w hSw; (try dsimp only at hSw); go_simp; try (with_reducible rfl))
        try simp only [List.getElem_toArray, List.getElem_cons_succ, List.getElem_cons_zero, Act.put, List.setIfInBounds_toArray, List.set_cons_zero, List.set_cons_succ]
        refine' wpAnyH_take (i := 3) (oi := _) (v := _) rfl (by kernel_rfl) (by kernel_rfl) (by kernel_rfl) (fun _ _ _ h => h) (Or.inl ⟨by kernel_rfl, ?_⟩) (by assumption) ?_
        rotate_left
        · (intro w hSw; (try dsimp only at hSw); go_simp; try (with_reducible rfl))
        try simp only [List.getElem_toArray, List.getElem_cons_succ, List.getElem_cons_zero, Act.put, List.setIfInBounds_toArray, List.set_cons_zero, List.set_cons_succ]
        refine' wpAnyH_take (i := 4) (oi := _) (v := _) rfl (by kernel_rfl) (by kernel_rfl) (by kernel_rfl) (fun _ _ _ h => h) (Or.inl ⟨by kernel_rfl, ?_⟩) (by assumption) ?_
        rotate_left
        · (intro w hSw; (try dsimp only at hSw); go_simp; try (with_reducible rfl))
        try simp only [List.getElem_toArray, List.getElem_cons_succ, List.getElem_cons_zero, Act.put, List.setIfInBounds_toArray, List.set_cons_zero, List.set_cons_succ]
        refine' wpAnyH_take (i := 5) (oi := _) (v := _) rfl (by kernel_rfl) (by kernel_rfl) (by kernel_rfl) (fun _ _ _ h => h) (Or.inl ⟨by kernel_rfl, ?_⟩) (by assumption) ?_
        rotate_left
        · (intro w hSw; (try dsimp only at hSw); go_simp; try (with_reducible rfl))
        try simp only [List.getElem_toArray, List.getElem_cons_succ, List.getElem_cons_zero, Act.put, List.setIfInBounds_toArray, List.set_cons_zero, List.set_cons_succ]
        refine' wpAnyH_take (i := 6) (oi := _) (v := _) rfl (by kernel_rfl) (by kernel_rfl) (by kernel_rfl) (fun _ _ _ h => h) (Or.inl ⟨by kernel_rfl, ?_⟩) (by assumption) ?_
        rotate_left
        · (intro w hSw; (try dsimp only at hSw); go_simp; try (with_reducible rfl))
        try simp only [List.getElem_toArray, List.getElem_cons_succ, List.getElem_cons_zero, Act.put, List.setIfInBounds_toArray, List.set_cons_zero, List.set_cons_succ]
        refine' wpAnyH_take (i := 7) (oi := _) (v := _) rfl (by kernel_rfl) (by kernel_rfl) (by kernel_rfl) (fun _ _ _ h => h) (Or.inl ⟨by kernel_rfl, ?_⟩) (by assumption) ?_
        rotate_left
        · (intro w hSw; (try dsimp only at hSw); go_simp; try (with_reducible rfl))
        try simp only [List.getElem_toArray, List.getElem_cons_succ, List.getElem_cons_zero, Act.put, List.setIfInBounds_toArray, List.set_cons_zero, List.set_cons_succ]
        refine' wpAnyH_take (i := 8) (oi := _) (v := _) rfl (by kernel_rfl) (by kernel_rfl) (by kernel_rfl) (fun _ _ _ h => h) (Or.inl ⟨by kernel_rfl, ?_⟩) (by assumption) ?_
        rotate_left
        · (intro w hSw; (try dsimp only at hSw); go_simp; try (with_reducible rfl))
        try simp only [List.getElem_toArray, List.getElem_cons_succ, List.getElem_cons_zero, Act.put, List.setIfInBounds_toArray, List.set_cons_zero, List.set_cons_succ]
        refine' wpAnyH_take (i := 9) (oi := _) (v := _) rfl (by kernel_rfl) (by kernel_rfl) (by kernel_rfl) (fun _ _ _ h => h) (Or.inl ⟨by kernel_rfl, ?_⟩) (by assumption) ?_
        rotate_left
        · (intro w hSw; (try dsimp only at hSw); go_simp; try (with_reducible rfl))
        try simp only [List.getElem_toArray, List.getElem_cons_succ, List.getElem_cons_zero, Act.put, List.setIfInBounds_toArray, List.set_cons_zero, List.set_cons_succ]
        refine' wpAnyH_take (i := 10) (oi := _) (v := _) rfl (by kernel_rfl) (by kernel_rfl) (by kernel_rfl) (fun _ _ _ h => h) (Or.inl ⟨by kernel_rfl, ?_⟩) (by assumption) ?_
        rotate_left
        · (intro w hSw; (try dsimp only at hSw); go_simp; try (with_reducible rfl))
        try simp only [List.getElem_toArray, List.getElem_cons_succ, List.getElem_cons_zero, Act.put, List.setIfInBounds_toArray, List.set_cons_zero, List.set_cons_succ]
        refine' wpAnyH_take (i := 11) (oi := _) (v := _) rfl (by kernel_rfl) (by kernel_rfl) (by kernel_rfl) (fun _ _ _ h => h) (Or.inl ⟨by kernel_rfl, ?_⟩) (by assumption) ?_
        rotate_left
        · (intro w hSw; (try dsimp only at hSw); go_simp; try (with_reducible rfl))
        try simp only [List.getElem_toArray, List.getElem_cons_succ, List.getElem_cons_zero, Act.put, List.setIfInBounds_toArray, List.set_cons_zero, List.set_cons_succ]
        refine' wpAnyH_take (i := 12) (oi := _) (v := _) rfl (by kernel_rfl) (by kernel_rfl) (by kernel_rfl) (fun _ _ _ h => h) (Or.inl ⟨by kernel_rfl, ?_⟩) (by assumption) ?_
        rotate_left
        · (intro w hSw; (try dsimp only at hSw); go_simp; try (with_reducible rfl))
        try simp only [List.getElem_toArray, List.getElem_cons_succ, List.getElem_cons_zero, Act.put, List.setIfInBounds_toArray, List.set_cons_zero, List.set_cons_succ]
        refine' wpAnyH_take (i := 13) (oi := _) (v := _) rfl (by kernel_rfl) (by kernel_rfl) (by kernel_rfl) (fun _ _ _ h => h) (Or.inl ⟨by kernel_rfl, ?_⟩) (by assumption) ?_
        rotate_left
        · (intro w hSw; (try dsimp only at hSw); go_simp; try (with_reducible rfl))
        try simp only [List.getElem_toArray, List.getElem_cons_succ, List.getElem_cons_zero, Act.put, List.setIfInBounds_toArray, List.set_cons_zero, List.set_cons_succ]
        refine wpAnyH_ready (rs := [14]) (by kernel_rfl) (by simp) ?_
        refine (AllReadyH.cons (o := _) rfl (fun K hK => ?_) AllReadyH.nil)
        go_simp
        obtain ⟨X11, hX11⟩ : ∃ X, V9.alloc (.cells #[.int .u64 0, .int .i64 0, .int .i64 0, .int .i64 0, .int .u64 0, .int .i64 0] 47) = X := ⟨_, rfl⟩
        have bX11 : Below V9.heap.size V9 X11 := by rw [← hX11]; exact ball _ _
        have r13 := hid (row_on r10.out bX11)
        have DX11 := hid (btr BV9.out bX11)
        have zX11 : X11.heap[V9.heap.size]? = some (.cells #[.int .u64 0, .int .i64 0, .int .i64 0, .int .i64 0, .int .u64 0, .int .i64 0] 47 (0, 0)) := by rw [← hX11]; exact World.alloc_heap_new _ _
        have yg12 := BV9.out.size
        obtain ⟨g12, hg12⟩ : ∃ g, V9.heap.size = g := ⟨_, rfl⟩
        have n14 : g12 ≠ S := by have := row_lt r10.out; omega
        rw [hg12] at zX11 yg12
        have ZX11 := hid zX11
        rw [hX11, hg12]
        clear hX11 hg12 zX11 bX11
        refine hK.out _ _ ?_ (fun hHeld => ?_)
        · (try dsimp only); exact ⟨row_cell r13.out 0, row_cell r13.out 4, LK.out _ DX11.out⟩
        clear hK K
        try simp only [List.getElem_toArray, List.getElem_cons_succ, List.getElem_cons_zero, Act.put, List.setIfInBounds_toArray, List.set_cons_zero, List.set_cons_succ]
        refine wpAnyH_ready (rs := [15]) (by kernel_rfl) (by simp) ?_
        refine (AllReadyH.cons (o := _) rfl (fun K hK => ?_) AllReadyH.nil)
        refine step_store_row (by rfl) 47 (.tmp 2) (.tmp 16) (by rfl) g12 #[.int .u64 m.sq, .int .i64 m.kd, .int .i64 m.sd, .int .i64 m.pr, .int .u64 m.qt, .int .i64 m.ct] (by rfl) (by rfl) 47 _ ZX11.out infoD (by rfl) (by simp [Value.oneCell']) ?_
        obtain ⟨Y15, hY15⟩ : ∃ Y, X11.setRow g12 #[.int .u64 m.sq, .int .i64 m.kd, .int .i64 m.sd, .int .i64 m.pr, .int .u64 m.qt, .int .i64 m.ct] = Y := ⟨_, rfl⟩
        have KY15 := hid (show Kp (fun j => j = g12) X11 Y15 from by rw [← hY15]; exact setRow_kp _ _ _)
        have AY15 := hid (show Y15.heap[g12]? = some (.cells #[.int .u64 m.sq, .int .i64 m.kd, .int .i64 m.sd, .int .i64 m.pr, .int .u64 m.qt, .int .i64 m.ct] 47 (0, 0)) from by rw [← hY15]; exact setRow_heap X11 g12 _ _ 47 (0, 0) ZX11.out)
        have DY15 := hid (show Below wr.heap.size wr Y15 from by rw [← hY15]; exact setRow_below DX11.out yg12)
        have r16 := hid (KY15.out.row r13.out (fun e => n14.symm e))
        rw [hY15]
        refine hK.out _ _ ?_ (fun hHeld => ?_)
        · (try dsimp only); exact ⟨row_cell r16.out 0, row_cell r16.out 4, LK.out _ DY15.out⟩
        clear hK K hY15
        try simp only [List.getElem_toArray, List.getElem_cons_succ, List.getElem_cons_zero, Act.put, List.setIfInBounds_toArray, List.set_cons_zero, List.set_cons_succ]
        refine' wpAnyH_take (i := 16) (oi := _) (v := _) rfl (by kernel_rfl) (by kernel_rfl) (by kernel_rfl) (fun _ _ _ h => h) (Or.inl ⟨by kernel_rfl, ?_⟩) (by assumption) ?_
        rotate_left
        · (intro w hSw; (try dsimp only at hSw); go_simp; try (with_reducible rfl))
        try simp only [List.getElem_toArray, List.getElem_cons_succ, List.getElem_cons_zero, Act.put, List.setIfInBounds_toArray, List.set_cons_zero, List.set_cons_succ]
        refine wpAnyH_done (by kernel_rfl) ?_ _
        exact ⟨g12, by kernel_rfl, DY15, AY15⟩
      · rintro P V ⟨BV, HP⟩
        try simp only [List.getElem_toArray, List.getElem_cons_succ, List.getElem_cons_zero, Act.put, List.setIfInBounds_toArray, List.set_cons_zero, List.set_cons_succ]
        clear LK HROW
        have HSV := hid (HU.out.sb.on BV.out)
        obtain ⟨V2, hrun, hm2, hk2⟩ := (HSV.out.hm.on (bdrew1 V)).del HG.out.nd m.sq HFM.out.2.1 0
        have HM2 := hid hm2
        have HK2 := hid hk2
        obtain ⟨k0, k1, k2, k3, k4, k5⟩ := row12 HSV.out.row
        obtain ⟨j0, j1, j2, j3, j4, j5⟩ := row6 HP.out
        clear hm2 hk2 k0 k1 k2 k3 k5 hy
        go_upto_region 2 with fail
        go_region_law fail
        all_goals
          have hs := HSV.out.on (bdrew1 V)
          have HS2 := hid (show Su V2 S M nm hold ⟨sq, gr, l1, l2, L.filter (fun d => d.sq != m.sq), la⟩ q1 e1 q2 e2 from ⟨⟨HK2.out.row hs.row (fun e => map_ne hs.hm hs.row e.symm), hs.o1.kept HK2.out (fun g hg e => by obtain ⟨cu, hc⟩ := hs.o1.ty hg; exact map_ne hs.hm hc e.symm), hs.o2.kept HK2.out (fun g hg e => by obtain ⟨cu, hc⟩ := hs.o2.ty hg; exact map_ne hs.hm hc e.symm), hs.k1, hs.k2, HM2.out, hs.sq, hs.gr⟩, HU.out.ap⟩)
          have HP2 := hid (HK2.out.row (row_on HP.out (bdrew1 V)) (fun e => map_ne hs.hm (row_on HP.out (bdrew1 V)) e.symm))
          clear hs hrun j0 j1 j2 j3 j4 j5 k4
          obtain ⟨j0, j1, j2, j3, j4, j5⟩ := row6 HP2.out
          have CD := hid (do_any HS2.out m HFM.out.1 HFM.out.2.1)
          go_upto_region 3 with fail
          go_wp2_with (go_at_call 41; with_reducible refine (CD.out).mono ?_; rintro e V3 ⟨rfl, r1, f1, r2, f2, h1, h2, h3, h4⟩; have HS3 := hid h1; have HK3 := hid h2; have HF3 := hid h3; have HF4 := hid h4; clear h1 h2 h3 h4)
          go_roundg ((nxS ⟨sq, gr, l1, l2, L, la⟩).L.length)
          case measure =>
            have := HK.out
            rw [← this]
            exact wo_lt HX.out
          case rel =>
            have kk : Kp (fun g => g = M) wr V2 := (Kp.of _ (btr BV.out (bdrew1 V))).trans HK2.out (fun _ _ h => h)
            have sz : wr.heap.size ≤ V2.heap.size := kk.size
            refine ⟨nxS ⟨sq, gr, l1, l2, L, la⟩, r1, f1, r2, f2, by rw [HNX.out]; exact HS3.out, HG.out.nxS HX.out, by rw [← goS_yes HX.out]; exact HE.out, rfl, ?_, ?_, ?_⟩
            · refine (HKP.out.trans kk (fun _ _ h => .inr (.inl h))).trans HK3.out (fun g hg h => ?_)
              rcases h with h | h | h
              · exact .inl h
              · rcases HF1.out g h with h | h
                · exact .inr (.inr (.inl h))
                · omega
              · rcases HF2.out g h with h | h
                · exact .inr (.inr (.inr h))
                · omega
            · intro g hg
              rcases HF3.out g hg with h | h
              · exact HF1.out g h
              · exact .inr (Nat.le_trans HKP.out.size (Nat.le_trans sz h))
            · intro g hg
              rcases HF4.out g hg with h | h
              · exact HF2.out g h
              · exact .inr (Nat.le_trans HKP.out.size (Nat.le_trans sz h))
end Go.Proofs.Ytojmcfkbekodpaa.Fd
namespace Go.Proofs.Ytojmcfkbekodpaa.Fd
open Go.RowKit Go.Deep
set_option linter.unusedVariables false
set_option linter.unusedSimpArgs false
set_option maxHeartbeats 8000000
set_option maxRecDepth 100000
attribute [local go_sem ↓] Go.wp_at_zero Go.wp_at_succ
theorem keep_full {w : World} {S M nm : Nat} {sq hold gr : Int} {p1 : Option Addr} {c1 : Nat} {l1 : List Lv} {p2 : Option Addr} {c2 : Nat} {l2 : List Lv} {L : List Dm} {la : Dm} (h : Sb w S M nm sq hold gr p1 c1 l1 p2 c2 l2 L la) (d : Dm) (hr : ¬ (L.length : Int) < hold) :
    Calls Try.prog 40 #[.pointer (some ⟨S, 0, none⟩), .agg #[.int .u64 d.sq, .int .i64 d.kd, .int .i64 d.sd, .int .i64 d.pr, .int .u64 d.qt, .int .i64 d.ct]] w fun e w' => e = .returned (.tuple #[]) ∧ Below w.heap.size w w' := by
  obtain ⟨R, hR⟩ : ∃ R, w.heap.size = R := ⟨_, rfl⟩
  obtain ⟨W, hW⟩ : ∃ W, w.alloc (.cells #[.int .u64 d.sq, .int .i64 d.kd, .int .i64 d.sd, .int .i64 d.pr, .int .u64 d.qt, .int .i64 d.ct] 47) = W := ⟨_, rfl⟩
  have hb0 : Below w.heap.size w W := by rw [← hW]; exact ball _ _
  have HS := hid (h.on hb0)
  have HB := hid hb0
  have HW := hid hW
  have HR := hid hR
  have HLN := hid (fun (U : World) (hU : Below W.heap.size W U) (ty : TypeId) => (HS.out.hm.on hU).len ty)
  have hlen : ∀ n ty, (Builtin.len_ #[103] ty #[.map (some M)]).run Try.prog (W.drewN n) = .ok (.int .i64 L.length) (W.drewN n) := fun n ty => HLN.out _ (bdrew _ _) ty
  obtain ⟨k0, k1, k2, k3, k4, k5⟩ := row12 HS.out.row
  obtain ⟨n, hn'⟩ : ∃ n, L.length = n := ⟨_, rfl⟩
  rw [hn'] at hlen hr
  have hr' : decide ((n : Int) < hold) = false := by simpa using hr
  clear h hb0 hW hR k0 k1 k2 k5 hn'
  go_enter Try.func40, Try.ntmps40
  go_upto_region 1 with fail
  rw [HW.out, HR.out]
  go_quiet (fail)
  go_wp2
  go_end0
  exact ⟨rfl, btr HB.out (bdrew _ _)⟩
theorem take_bad {w : World} {S M nm : Nat} {sq hold gr : Int} {p1 : Option Addr} {c1 : Nat} {l1 : List Lv} {p2 : Option Addr} {c2 : Nat} {l2 : List Lv} {L : List Dm} {la : Dm} (h : Sb w S M nm sq hold gr p1 c1 l1 p2 c2 l2 L la) (d : Dm) (hok : dOk d = false) (hq : 0 ≤ d.sq ∧ d.sq < 18446744073709551616) :
    Calls Try.prog 17 #[.pointer (some ⟨S, 0, none⟩), .agg #[.int .u64 d.sq, .int .i64 d.kd, .int .i64 d.sd, .int .i64 d.pr, .int .u64 d.qt, .int .i64 d.ct]] w fun e w' => e = .returned (.int .i64 1) ∧ Below w.heap.size w w' := by
  obtain ⟨R, hR⟩ : ∃ R, w.heap.size = R := ⟨_, rfl⟩
  obtain ⟨W, hW⟩ : ∃ W, w.alloc (.cells #[.int .u64 d.sq, .int .i64 d.kd, .int .i64 d.sd, .int .i64 d.pr, .int .u64 d.qt, .int .i64 d.ct] 47) = W := ⟨_, rfl⟩
  have hb0 : Below w.heap.size w W := by rw [← hW]; exact ball _ _
  have HD := hid (show W.heap[R]? = some (.cells #[.int .u64 d.sq, .int .i64 d.kd, .int .i64 d.sd, .int .i64 d.pr, .int .u64 d.qt, .int .i64 d.ct] 47 (0, 0)) from by rw [← hW, ← hR]; exact World.alloc_heap_new _ _)
  have HS := hid (h.on hb0)
  have HSR := hid HS.out.row
  have HB := hid hb0
  have HW := hid hW
  have HR := hid hR
  have CB := hid (fun U => canBe_any d U)
  rw [hok] at CB
  obtain ⟨f, hf⟩ : ∃ f, fnd L d.sq = f := ⟨_, rfl⟩
  obtain ⟨b, hb⟩ : ∃ b, L.any (fun x => x.sq == d.sq) = b := ⟨_, rfl⟩
  have LK := hid (show ∀ U, Below W.heap.size W U → (Instr.lookup 103 (.map (some M)) (.int .u64 d.sq) true).run Try.prog U = .ok (.tuple #[.agg #[.int .u64 f.sq, .int .i64 f.kd, .int .i64 f.sd, .int .i64 f.pr, .int .u64 f.qt, .int .i64 f.ct], .bool b]) U from fun U hU => by
    have := (HS.out.hm.on hU).look d.sq hq
    rw [hb, hf] at this
    exact this)
  clear h hb
  clear hb0 hW hR hok hf
  go_enter Try.func17, Try.ntmps17
  go_upto_region 1 with fail
  rw [HW.out, HR.out]
  refine reg_cut (X := Nat) (fun a t => ((((((((((((a.put (some 8) (.pointer (some ⟨S, 0, none⟩))).put (some 9) (.pointer (some ⟨S, 0, none⟩))).put (some 10) (.pointer (some ⟨S, 4, none⟩))).put (some 11) (.map (some M))).put (some 12) (.pointer (some ⟨R, 0, none⟩))).put (some 13) (.int .u64 d.sq)).put (some 14) (.tuple #[.agg #[.int .u64 f.sq, .int .i64 f.kd, .int .i64 f.sd, .int .i64 f.pr, .int .u64 f.qt, .int .i64 f.ct], .bool b])).put (some 7) (.tuple #[.agg #[.int .u64 f.sq, .int .i64 f.kd, .int .i64 f.sd, .int .i64 f.pr, .int .u64 f.qt, .int .i64 f.ct], .bool b])).put (some 15) (.agg #[.int .u64 f.sq, .int .i64 f.kd, .int .i64 f.sd, .int .i64 f.pr, .int .u64 f.qt, .int .i64 f.ct])).put (some 16) (.bool b)).put (some 5) (.pointer (some ⟨t, 0, none⟩))).put (some 6) (.bool b))) (fun t V => Hid (Below W.heap.size W V)) ?_ ?_
  · obtain ⟨V1, hV1⟩ : ∃ U, W.drew = U := ⟨_, rfl⟩
    have BV1 := hid (show Below W.heap.size W V1 from by rw [← hV1]; exact bdrew1 _)
    have r2 := hid (row_on HSR.out BV1.out)
    have r3 := hid (row_on HD.out BV1.out)
    refine wp_region_held_drew (S := (fun U => U.cell? ⟨S, 4, none⟩ = some (.map (some M)) ∧ U.cell? ⟨R, 0, none⟩ = some (.int .u64 d.sq) ∧ (Instr.lookup 103 (.map (some M)) (.int .u64 d.sq) true).run Try.prog U = .ok (.tuple #[.agg #[.int .u64 f.sq, .int .i64 f.kd, .int .i64 f.sd, .int .i64 f.pr, .int .u64 f.qt, .int .i64 f.ct], .bool b]) U)) (by kernel_rfl) ?_ (fun hHeld => ?_)
    · (try dsimp only); rw [hV1]; exact ⟨row_cell r2.out 4, row_cell r3.out 0, LK.out _ BV1.out⟩
    rw [hV1] at hHeld ⊢
    clear hV1
    refine' wpAnyH_take (i := 0) (oi := _) (v := _) rfl (by kernel_rfl) (by kernel_rfl) (by kernel_rfl) (fun _ _ _ h => h) (Or.inl ⟨by kernel_rfl, ?_⟩) (by assumption) ?_
    rotate_left
    · (intro w hSw; (try dsimp only at hSw); go_simp; try (with_reducible rfl))
    try simp only [List.getElem_toArray, List.getElem_cons_succ, List.getElem_cons_zero, Act.put, List.setIfInBounds_toArray, List.set_cons_zero, List.set_cons_succ]
    refine' wpAnyH_take (i := 1) (oi := _) (v := _) rfl (by kernel_rfl) (by kernel_rfl) (by kernel_rfl) (fun _ _ _ h => h) (Or.inl ⟨by kernel_rfl, ?_⟩) (by assumption) ?_
    rotate_left
    · (intro w hSw; (try dsimp only at hSw); go_simp; try (with_reducible rfl))
    try simp only [List.getElem_toArray, List.getElem_cons_succ, List.getElem_cons_zero, Act.put, List.setIfInBounds_toArray, List.set_cons_zero, List.set_cons_succ]
    refine' wpAnyH_take (i := 2) (oi := _) (v := _) rfl (by kernel_rfl) (by kernel_rfl) (by kernel_rfl) (fun _ _ _ h => h) (Or.inl ⟨by kernel_rfl, ?_⟩) (by assumption) ?_
    rotate_left
    · (intro w hSw; (try dsimp only at hSw); go_simp; try (with_reducible rfl))
    try simp only [List.getElem_toArray, List.getElem_cons_succ, List.getElem_cons_zero, Act.put, List.setIfInBounds_toArray, List.set_cons_zero, List.set_cons_succ]
    refine' wpAnyH_take (i := 3) (oi := _) (v := _) rfl (by kernel_rfl) (by kernel_rfl) (by kernel_rfl) (fun _ _ _ h => h) (Or.inl ⟨by kernel_rfl, ?_⟩) (by assumption) ?_
    rotate_left
    · (intro w hSw; (try dsimp only at hSw); go_simp; try (with_reducible rfl))
    try simp only [List.getElem_toArray, List.getElem_cons_succ, List.getElem_cons_zero, Act.put, List.setIfInBounds_toArray, List.set_cons_zero, List.set_cons_succ]
    refine' wpAnyH_take (i := 4) (oi := _) (v := _) rfl (by kernel_rfl) (by kernel_rfl) (by kernel_rfl) (fun _ _ _ h => h) (Or.inl ⟨by kernel_rfl, ?_⟩) (by assumption) ?_
    rotate_left
    · (intro w hSw; (try dsimp only at hSw); go_simp; try (with_reducible rfl))
    try simp only [List.getElem_toArray, List.getElem_cons_succ, List.getElem_cons_zero, Act.put, List.setIfInBounds_toArray, List.set_cons_zero, List.set_cons_succ]
    refine' wpAnyH_take (i := 5) (oi := _) (v := _) rfl (by kernel_rfl) (by kernel_rfl) (by kernel_rfl) (fun _ _ _ h => h) (Or.inl ⟨by kernel_rfl, ?_⟩) (by assumption) ?_
    rotate_left
    · (intro w hSw; (try dsimp only at hSw); go_simp; try (with_reducible rfl))
    try simp only [List.getElem_toArray, List.getElem_cons_succ, List.getElem_cons_zero, Act.put, List.setIfInBounds_toArray, List.set_cons_zero, List.set_cons_succ]
    refine' wpAnyH_take (i := 6) (oi := _) (v := _) rfl (by kernel_rfl) (by kernel_rfl) (by kernel_rfl) (fun _ _ _ h => h) (Or.inl ⟨by kernel_rfl, ?_⟩) (by assumption) ?_
    rotate_left
    · (intro w hSw; (try dsimp only at hSw); go_simp; try (with_reducible rfl))
    try simp only [List.getElem_toArray, List.getElem_cons_succ, List.getElem_cons_zero, Act.put, List.setIfInBounds_toArray, List.set_cons_zero, List.set_cons_succ]
    refine' wpAnyH_take (i := 7) (oi := _) (v := _) rfl (by kernel_rfl) (by kernel_rfl) (by kernel_rfl) (fun _ _ _ h => h) (Or.inl ⟨by kernel_rfl, ?_⟩) (by assumption) ?_
    rotate_left
    · (intro w hSw; (try dsimp only at hSw); go_simp; try (with_reducible rfl))
    try simp only [List.getElem_toArray, List.getElem_cons_succ, List.getElem_cons_zero, Act.put, List.setIfInBounds_toArray, List.set_cons_zero, List.set_cons_succ]
    refine' wpAnyH_take (i := 8) (oi := _) (v := _) rfl (by kernel_rfl) (by kernel_rfl) (by kernel_rfl) (fun _ _ _ h => h) (Or.inl ⟨by kernel_rfl, ?_⟩) (by assumption) ?_
    rotate_left
    · (intro w hSw; (try dsimp only at hSw); go_simp; try (with_reducible rfl))
    try simp only [List.getElem_toArray, List.getElem_cons_succ, List.getElem_cons_zero, Act.put, List.setIfInBounds_toArray, List.set_cons_zero, List.set_cons_succ]
    refine' wpAnyH_take (i := 9) (oi := _) (v := _) rfl (by kernel_rfl) (by kernel_rfl) (by kernel_rfl) (fun _ _ _ h => h) (Or.inl ⟨by kernel_rfl, ?_⟩) (by assumption) ?_
    rotate_left
    · (intro w hSw; (try dsimp only at hSw); go_simp; try (with_reducible rfl))
    try simp only [List.getElem_toArray, List.getElem_cons_succ, List.getElem_cons_zero, Act.put, List.setIfInBounds_toArray, List.set_cons_zero, List.set_cons_succ]
    refine wpAnyH_ready (rs := [10]) (by kernel_rfl) (by simp) ?_
    refine (AllReadyH.cons (o := _) rfl (fun K hK => ?_) AllReadyH.nil)
    go_simp
    obtain ⟨X4, hX4⟩ : ∃ X, V1.alloc (.cells #[.int .u64 0, .int .i64 0, .int .i64 0, .int .i64 0, .int .u64 0, .int .i64 0] 47) = X := ⟨_, rfl⟩
    have bX4 : Below V1.heap.size V1 X4 := by rw [← hX4]; exact ball _ _
    have r6 := hid (row_on r2.out bX4)
    have r7 := hid (row_on r3.out bX4)
    have DX4 := hid (btr BV1.out bX4)
    have zX4 : X4.heap[V1.heap.size]? = some (.cells #[.int .u64 0, .int .i64 0, .int .i64 0, .int .i64 0, .int .u64 0, .int .i64 0] 47 (0, 0)) := by rw [← hX4]; exact World.alloc_heap_new _ _
    have yg5 := BV1.out.size
    obtain ⟨g5, hg5⟩ : ∃ g, V1.heap.size = g := ⟨_, rfl⟩
    have n8 : g5 ≠ S := by have := row_lt r2.out; omega
    have n9 : g5 ≠ R := by have := row_lt r3.out; omega
    rw [hg5] at zX4 yg5
    have ZX4 := hid zX4
    rw [hX4, hg5]
    clear hX4 hg5 zX4 bX4
    refine hK.out _ _ ?_ (fun hHeld => ?_)
    · (try dsimp only); exact ⟨row_cell r6.out 4, row_cell r7.out 0, LK.out _ DX4.out⟩
    clear hK K
    try simp only [List.getElem_toArray, List.getElem_cons_succ, List.getElem_cons_zero, Act.put, List.setIfInBounds_toArray, List.set_cons_zero, List.set_cons_succ]
    refine wpAnyH_ready (rs := [11]) (by kernel_rfl) (by simp) ?_
    refine (AllReadyH.cons (o := _) rfl (fun K hK => ?_) AllReadyH.nil)
    refine step_store_row (by rfl) 47 (.tmp 5) (.tmp 15) (by rfl) g5 #[.int .u64 f.sq, .int .i64 f.kd, .int .i64 f.sd, .int .i64 f.pr, .int .u64 f.qt, .int .i64 f.ct] (by rfl) (by rfl) 47 _ ZX4.out infoD (by rfl) (by simp [Value.oneCell']) ?_
    obtain ⟨Y10, hY10⟩ : ∃ Y, X4.setRow g5 #[.int .u64 f.sq, .int .i64 f.kd, .int .i64 f.sd, .int .i64 f.pr, .int .u64 f.qt, .int .i64 f.ct] = Y := ⟨_, rfl⟩
    have KY10 := hid (show Kp (fun j => j = g5) X4 Y10 from by rw [← hY10]; exact setRow_kp _ _ _)
    have AY10 := hid (show Y10.heap[g5]? = some (.cells #[.int .u64 f.sq, .int .i64 f.kd, .int .i64 f.sd, .int .i64 f.pr, .int .u64 f.qt, .int .i64 f.ct] 47 (0, 0)) from by rw [← hY10]; exact setRow_heap X4 g5 _ _ 47 (0, 0) ZX4.out)
    have DY10 := hid (show Below W.heap.size W Y10 from by rw [← hY10]; exact setRow_below DX4.out yg5)
    have r11 := hid (KY10.out.row r6.out (fun e => n8.symm e))
    have r12 := hid (KY10.out.row r7.out (fun e => n9.symm e))
    rw [hY10]
    refine hK.out _ _ ?_ (fun hHeld => ?_)
    · (try dsimp only); exact ⟨row_cell r11.out 4, row_cell r12.out 0, LK.out _ DY10.out⟩
    clear hK K hY10
    try simp only [List.getElem_toArray, List.getElem_cons_succ, List.getElem_cons_zero, Act.put, List.setIfInBounds_toArray, List.set_cons_zero, List.set_cons_succ]
    refine' wpAnyH_take (i := 12) (oi := _) (v := _) rfl (by kernel_rfl) (by kernel_rfl) (by kernel_rfl) (fun _ _ _ h => h) (Or.inl ⟨by kernel_rfl, ?_⟩) (by assumption) ?_
    rotate_left
    · (intro w hSw; (try dsimp only at hSw); go_simp; try (with_reducible rfl))
    try simp only [List.getElem_toArray, List.getElem_cons_succ, List.getElem_cons_zero, Act.put, List.setIfInBounds_toArray, List.set_cons_zero, List.set_cons_succ]
    refine wpAnyH_done (by kernel_rfl) ?_ _
    exact ⟨g5, by kernel_rfl, DY10⟩
  · rintro P V BVH
    have BV := BVH.out
    try simp only [List.getElem_toArray, List.getElem_cons_succ, List.getElem_cons_zero, Act.put, List.setIfInBounds_toArray, List.set_cons_zero, List.set_cons_succ]
    obtain ⟨j0, j1, j2, j3, j4, j5⟩ := row6 (row_on HD.out BV)
    go_wp2_with (go_at_call 39; with_reducible refine (CB.out _).mono ?_; rintro e V1 ⟨rfl, hb⟩; have BV1 := hid (btr BV hb); clear hb)
    go_ret
    exact ⟨rfl, btr HB.out BV1.out⟩
theorem take_old {w : World} {S M nm : Nat} {sq hold gr : Int} {p1 : Option Addr} {c1 : Nat} {l1 : List Lv} {p2 : Option Addr} {c2 : Nat} {l2 : List Lv} {L : List Dm} {la : Dm} (h : Sb w S M nm sq hold gr p1 c1 l1 p2 c2 l2 L la) (d : Dm) (hok : dOk d = true) (hq : 0 ≤ d.sq ∧ d.sq < 18446744073709551616) (hlt : d.sq ≤ sq) :
    Calls Try.prog 17 #[.pointer (some ⟨S, 0, none⟩), .agg #[.int .u64 d.sq, .int .i64 d.kd, .int .i64 d.sd, .int .i64 d.pr, .int .u64 d.qt, .int .i64 d.ct]] w fun e w' => e = .returned (.int .i64 180) ∧ Below w.heap.size w w' := by
  obtain ⟨R, hR⟩ : ∃ R, w.heap.size = R := ⟨_, rfl⟩
  obtain ⟨W, hW⟩ : ∃ W, w.alloc (.cells #[.int .u64 d.sq, .int .i64 d.kd, .int .i64 d.sd, .int .i64 d.pr, .int .u64 d.qt, .int .i64 d.ct] 47) = W := ⟨_, rfl⟩
  have hb0 : Below w.heap.size w W := by rw [← hW]; exact ball _ _
  have HD := hid (show W.heap[R]? = some (.cells #[.int .u64 d.sq, .int .i64 d.kd, .int .i64 d.sd, .int .i64 d.pr, .int .u64 d.qt, .int .i64 d.ct] 47 (0, 0)) from by rw [← hW, ← hR]; exact World.alloc_heap_new _ _)
  have HS := hid (h.on hb0)
  have HSR := hid HS.out.row
  have HB := hid hb0
  have HW := hid hW
  have HR := hid hR
  have CB := hid (fun U => canBe_any d U)
  rw [hok] at CB
  obtain ⟨f, hf⟩ : ∃ f, fnd L d.sq = f := ⟨_, rfl⟩
  obtain ⟨b, hb⟩ : ∃ b, L.any (fun x => x.sq == d.sq) = b := ⟨_, rfl⟩
  have LK := hid (show ∀ U, Below W.heap.size W U → (Instr.lookup 103 (.map (some M)) (.int .u64 d.sq) true).run Try.prog U = .ok (.tuple #[.agg #[.int .u64 f.sq, .int .i64 f.kd, .int .i64 f.sd, .int .i64 f.pr, .int .u64 f.qt, .int .i64 f.ct], .bool b]) U from fun U hU => by
    have := (HS.out.hm.on hU).look d.sq hq
    rw [hb, hf] at this
    exact this)
  clear h hb
  clear hb0 hW hR hok hf
  go_enter Try.func17, Try.ntmps17
  go_upto_region 1 with fail
  rw [HW.out, HR.out]
  refine reg_cut (X := Nat) (fun a t => ((((((((((((a.put (some 8) (.pointer (some ⟨S, 0, none⟩))).put (some 9) (.pointer (some ⟨S, 0, none⟩))).put (some 10) (.pointer (some ⟨S, 4, none⟩))).put (some 11) (.map (some M))).put (some 12) (.pointer (some ⟨R, 0, none⟩))).put (some 13) (.int .u64 d.sq)).put (some 14) (.tuple #[.agg #[.int .u64 f.sq, .int .i64 f.kd, .int .i64 f.sd, .int .i64 f.pr, .int .u64 f.qt, .int .i64 f.ct], .bool b])).put (some 7) (.tuple #[.agg #[.int .u64 f.sq, .int .i64 f.kd, .int .i64 f.sd, .int .i64 f.pr, .int .u64 f.qt, .int .i64 f.ct], .bool b])).put (some 15) (.agg #[.int .u64 f.sq, .int .i64 f.kd, .int .i64 f.sd, .int .i64 f.pr, .int .u64 f.qt, .int .i64 f.ct])).put (some 16) (.bool b)).put (some 5) (.pointer (some ⟨t, 0, none⟩))).put (some 6) (.bool b))) (fun t V => Hid (Below W.heap.size W V)) ?_ ?_
  · obtain ⟨V13, hV13⟩ : ∃ U, W.drew = U := ⟨_, rfl⟩
    have BV13 := hid (show Below W.heap.size W V13 from by rw [← hV13]; exact bdrew1 _)
    have r14 := hid (row_on HSR.out BV13.out)
    have r15 := hid (row_on HD.out BV13.out)
    refine wp_region_held_drew (S := (fun U => U.cell? ⟨S, 4, none⟩ = some (.map (some M)) ∧ U.cell? ⟨R, 0, none⟩ = some (.int .u64 d.sq) ∧ (Instr.lookup 103 (.map (some M)) (.int .u64 d.sq) true).run Try.prog U = .ok (.tuple #[.agg #[.int .u64 f.sq, .int .i64 f.kd, .int .i64 f.sd, .int .i64 f.pr, .int .u64 f.qt, .int .i64 f.ct], .bool b]) U)) (by kernel_rfl) ?_ (fun hHeld => ?_)
    · (try dsimp only); rw [hV13]; exact ⟨row_cell r14.out 4, row_cell r15.out 0, LK.out _ BV13.out⟩
    rw [hV13] at hHeld ⊢
    clear hV13
    refine' wpAnyH_take (i := 0) (oi := _) (v := _) rfl (by kernel_rfl) (by kernel_rfl) (by kernel_rfl) (fun _ _ _ h => h) (Or.inl ⟨by kernel_rfl, ?_⟩) (by assumption) ?_
    rotate_left
    · (intro w hSw; (try dsimp only at hSw); go_simp; try (with_reducible rfl))
    try simp only [List.getElem_toArray, List.getElem_cons_succ, List.getElem_cons_zero, Act.put, List.setIfInBounds_toArray, List.set_cons_zero, List.set_cons_succ]
    refine' wpAnyH_take (i := 1) (oi := _) (v := _) rfl (by kernel_rfl) (by kernel_rfl) (by kernel_rfl) (fun _ _ _ h => h) (Or.inl ⟨by kernel_rfl, ?_⟩) (by assumption) ?_
    rotate_left
    · (intro w hSw; (try dsimp only at hSw); go_simp; try (with_reducible rfl))
    try simp only [List.getElem_toArray, List.getElem_cons_succ, List.getElem_cons_zero, Act.put, List.setIfInBounds_toArray, List.set_cons_zero, List.set_cons_succ]
    refine' wpAnyH_take (i := 2) (oi := _) (v := _) rfl (by kernel_rfl) (by kernel_rfl) (by kernel_rfl) (fun _ _ _ h => h) (Or.inl ⟨by kernel_rfl, ?_⟩) (by assumption) ?_
    rotate_left
    · (intro w hSw; (try dsimp only at hSw); go_simp; try (with_reducible rfl))
    try simp only [List.getElem_toArray, List.getElem_cons_succ, List.getElem_cons_zero, Act.put, List.setIfInBounds_toArray, List.set_cons_zero, List.set_cons_succ]
    refine' wpAnyH_take (i := 3) (oi := _) (v := _) rfl (by kernel_rfl) (by kernel_rfl) (by kernel_rfl) (fun _ _ _ h => h) (Or.inl ⟨by kernel_rfl, ?_⟩) (by assumption) ?_
    rotate_left
    · (intro w hSw; (try dsimp only at hSw); go_simp; try (with_reducible rfl))
    try simp only [List.getElem_toArray, List.getElem_cons_succ, List.getElem_cons_zero, Act.put, List.setIfInBounds_toArray, List.set_cons_zero, List.set_cons_succ]
    refine' wpAnyH_take (i := 4) (oi := _) (v := _) rfl (by kernel_rfl) (by kernel_rfl) (by kernel_rfl) (fun _ _ _ h => h) (Or.inl ⟨by kernel_rfl, ?_⟩) (by assumption) ?_
    rotate_left
    · (intro w hSw; (try dsimp only at hSw); go_simp; try (with_reducible rfl))
    try simp only [List.getElem_toArray, List.getElem_cons_succ, List.getElem_cons_zero, Act.put, List.setIfInBounds_toArray, List.set_cons_zero, List.set_cons_succ]
    refine' wpAnyH_take (i := 5) (oi := _) (v := _) rfl (by kernel_rfl) (by kernel_rfl) (by kernel_rfl) (fun _ _ _ h => h) (Or.inl ⟨by kernel_rfl, ?_⟩) (by assumption) ?_
    rotate_left
    · (intro w hSw; (try dsimp only at hSw); go_simp; try (with_reducible rfl))
    try simp only [List.getElem_toArray, List.getElem_cons_succ, List.getElem_cons_zero, Act.put, List.setIfInBounds_toArray, List.set_cons_zero, List.set_cons_succ]
    refine' wpAnyH_take (i := 6) (oi := _) (v := _) rfl (by kernel_rfl) (by kernel_rfl) (by kernel_rfl) (fun _ _ _ h => h) (Or.inl ⟨by kernel_rfl, ?_⟩) (by assumption) ?_
    rotate_left
    · (intro w hSw; (try dsimp only at hSw); go_simp; try (with_reducible rfl))
    try simp only [List.getElem_toArray, List.getElem_cons_succ, List.getElem_cons_zero, Act.put, List.setIfInBounds_toArray, List.set_cons_zero, List.set_cons_succ]
    refine' wpAnyH_take (i := 7) (oi := _) (v := _) rfl (by kernel_rfl) (by kernel_rfl) (by kernel_rfl) (fun _ _ _ h => h) (Or.inl ⟨by kernel_rfl, ?_⟩) (by assumption) ?_
    rotate_left
    · (intro w hSw; (try dsimp only at hSw); go_simp; try (with_reducible rfl))
    try simp only [List.getElem_toArray, List.getElem_cons_succ, List.getElem_cons_zero, Act.put, List.setIfInBounds_toArray, List.set_cons_zero, List.set_cons_succ]
    refine' wpAnyH_take (i := 8) (oi := _) (v := _) rfl (by kernel_rfl) (by kernel_rfl) (by kernel_rfl) (fun _ _ _ h => h) (Or.inl ⟨by kernel_rfl, ?_⟩) (by assumption) ?_
    rotate_left
    · (intro w hSw; (try dsimp only at hSw); go_simp; try (with_reducible rfl))
    try simp only [List.getElem_toArray, List.getElem_cons_succ, List.getElem_cons_zero, Act.put, List.setIfInBounds_toArray, List.set_cons_zero, List.set_cons_succ]
    refine' wpAnyH_take (i := 9) (oi := _) (v := _) rfl (by kernel_rfl) (by kernel_rfl) (by kernel_rfl) (fun _ _ _ h => h) (Or.inl ⟨by kernel_rfl, ?_⟩) (by assumption) ?_
    rotate_left
    · (intro w hSw; (try dsimp only at hSw); go_simp; try (with_reducible rfl))
    try simp only [List.getElem_toArray, List.getElem_cons_succ, List.getElem_cons_zero, Act.put, List.setIfInBounds_toArray, List.set_cons_zero, List.set_cons_succ]
    refine wpAnyH_ready (rs := [10]) (by kernel_rfl) (by simp) ?_
    refine (AllReadyH.cons (o := _) rfl (fun K hK => ?_) AllReadyH.nil)
    go_simp
    obtain ⟨X16, hX16⟩ : ∃ X, V13.alloc (.cells #[.int .u64 0, .int .i64 0, .int .i64 0, .int .i64 0, .int .u64 0, .int .i64 0] 47) = X := ⟨_, rfl⟩
    have bX16 : Below V13.heap.size V13 X16 := by rw [← hX16]; exact ball _ _
    have r18 := hid (row_on r14.out bX16)
    have r19 := hid (row_on r15.out bX16)
    have DX16 := hid (btr BV13.out bX16)
    have zX16 : X16.heap[V13.heap.size]? = some (.cells #[.int .u64 0, .int .i64 0, .int .i64 0, .int .i64 0, .int .u64 0, .int .i64 0] 47 (0, 0)) := by rw [← hX16]; exact World.alloc_heap_new _ _
    have yg17 := BV13.out.size
    obtain ⟨g17, hg17⟩ : ∃ g, V13.heap.size = g := ⟨_, rfl⟩
    have n20 : g17 ≠ S := by have := row_lt r14.out; omega
    have n21 : g17 ≠ R := by have := row_lt r15.out; omega
    rw [hg17] at zX16 yg17
    have ZX16 := hid zX16
    rw [hX16, hg17]
    clear hX16 hg17 zX16 bX16
    refine hK.out _ _ ?_ (fun hHeld => ?_)
    · (try dsimp only); exact ⟨row_cell r18.out 4, row_cell r19.out 0, LK.out _ DX16.out⟩
    clear hK K
    try simp only [List.getElem_toArray, List.getElem_cons_succ, List.getElem_cons_zero, Act.put, List.setIfInBounds_toArray, List.set_cons_zero, List.set_cons_succ]
    refine wpAnyH_ready (rs := [11]) (by kernel_rfl) (by simp) ?_
    refine (AllReadyH.cons (o := _) rfl (fun K hK => ?_) AllReadyH.nil)
    refine step_store_row (by rfl) 47 (.tmp 5) (.tmp 15) (by rfl) g17 #[.int .u64 f.sq, .int .i64 f.kd, .int .i64 f.sd, .int .i64 f.pr, .int .u64 f.qt, .int .i64 f.ct] (by rfl) (by rfl) 47 _ ZX16.out infoD (by rfl) (by simp [Value.oneCell']) ?_
    obtain ⟨Y22, hY22⟩ : ∃ Y, X16.setRow g17 #[.int .u64 f.sq, .int .i64 f.kd, .int .i64 f.sd, .int .i64 f.pr, .int .u64 f.qt, .int .i64 f.ct] = Y := ⟨_, rfl⟩
    have KY22 := hid (show Kp (fun j => j = g17) X16 Y22 from by rw [← hY22]; exact setRow_kp _ _ _)
    have AY22 := hid (show Y22.heap[g17]? = some (.cells #[.int .u64 f.sq, .int .i64 f.kd, .int .i64 f.sd, .int .i64 f.pr, .int .u64 f.qt, .int .i64 f.ct] 47 (0, 0)) from by rw [← hY22]; exact setRow_heap X16 g17 _ _ 47 (0, 0) ZX16.out)
    have DY22 := hid (show Below W.heap.size W Y22 from by rw [← hY22]; exact setRow_below DX16.out yg17)
    have r23 := hid (KY22.out.row r18.out (fun e => n20.symm e))
    have r24 := hid (KY22.out.row r19.out (fun e => n21.symm e))
    rw [hY22]
    refine hK.out _ _ ?_ (fun hHeld => ?_)
    · (try dsimp only); exact ⟨row_cell r23.out 4, row_cell r24.out 0, LK.out _ DY22.out⟩
    clear hK K hY22
    try simp only [List.getElem_toArray, List.getElem_cons_succ, List.getElem_cons_zero, Act.put, List.setIfInBounds_toArray, List.set_cons_zero, List.set_cons_succ]
    refine' wpAnyH_take (i := 12) (oi := _) (v := _) rfl (by kernel_rfl) (by kernel_rfl) (by kernel_rfl) (fun _ _ _ h => h) (Or.inl ⟨by kernel_rfl, ?_⟩) (by assumption) ?_
    rotate_left
    · (intro w hSw; (try dsimp only at hSw); go_simp; try (with_reducible rfl))
    try simp only [List.getElem_toArray, List.getElem_cons_succ, List.getElem_cons_zero, Act.put, List.setIfInBounds_toArray, List.set_cons_zero, List.set_cons_succ]
    refine wpAnyH_done (by kernel_rfl) ?_ _
    exact ⟨g17, by kernel_rfl, DY22⟩
  · rintro P V BVH
    have BV := BVH.out
    try simp only [List.getElem_toArray, List.getElem_cons_succ, List.getElem_cons_zero, Act.put, List.setIfInBounds_toArray, List.set_cons_zero, List.set_cons_succ]
    obtain ⟨j0, j1, j2, j3, j4, j5⟩ := row6 (row_on HD.out BV)
    go_upto_region 4 with (go_at_call 39; with_reducible refine (CB.out _).mono ?_; rintro e V1 ⟨rfl, hb⟩; have BV1 := hid (btr BV hb); clear hb)
    clear j0 j1 j2 j3 j4 j5 LK
    have HS1 := hid (HS.out.on BV1.out)
    have HD1 := hid (row_on HD.out BV1.out)
    obtain ⟨k0, k1, k2, k3, k4, k5⟩ := row12 HS1.out.row
    obtain ⟨j0, j1, j2, j3, j4, j5⟩ := row6 HD1.out
    have g1 : decide (d.sq ≤ sq) = true := by simpa using hlt
    go_quiet (fail)
    go_wp2
    go_ret
    exact ⟨rfl, btr HB.out (btr BV1.out (bdrew _ _))⟩
theorem take_held {w : World} {S M nm : Nat} {sq hold gr : Int} {p1 : Option Addr} {c1 : Nat} {l1 : List Lv} {p2 : Option Addr} {c2 : Nat} {l2 : List Lv} {L : List Dm} {la : Dm} (h : Sb w S M nm sq hold gr p1 c1 l1 p2 c2 l2 L la) (d : Dm) (hok : dOk d = true) (hq : 0 ≤ d.sq ∧ d.sq < 18446744073709551616) (hlt : sq < d.sq) (hx : L.any (fun x => x.sq == d.sq) = true) :
    Calls Try.prog 17 #[.pointer (some ⟨S, 0, none⟩), .agg #[.int .u64 d.sq, .int .i64 d.kd, .int .i64 d.sd, .int .i64 d.pr, .int .u64 d.qt, .int .i64 d.ct]] w fun e w' => e = .returned (.int .i64 180) ∧ Below w.heap.size w w' := by
  obtain ⟨R, hR⟩ : ∃ R, w.heap.size = R := ⟨_, rfl⟩
  obtain ⟨W, hW⟩ : ∃ W, w.alloc (.cells #[.int .u64 d.sq, .int .i64 d.kd, .int .i64 d.sd, .int .i64 d.pr, .int .u64 d.qt, .int .i64 d.ct] 47) = W := ⟨_, rfl⟩
  have hb0 : Below w.heap.size w W := by rw [← hW]; exact ball _ _
  have HD := hid (show W.heap[R]? = some (.cells #[.int .u64 d.sq, .int .i64 d.kd, .int .i64 d.sd, .int .i64 d.pr, .int .u64 d.qt, .int .i64 d.ct] 47 (0, 0)) from by rw [← hW, ← hR]; exact World.alloc_heap_new _ _)
  have HS := hid (h.on hb0)
  have HSR := hid HS.out.row
  have HB := hid hb0
  have HW := hid hW
  have HR := hid hR
  have CB := hid (fun U => canBe_any d U)
  rw [hok] at CB
  obtain ⟨f, hf⟩ : ∃ f, fnd L d.sq = f := ⟨_, rfl⟩
  obtain ⟨b, hb⟩ : ∃ b, L.any (fun x => x.sq == d.sq) = b := ⟨_, rfl⟩
  have LK := hid (show ∀ U, Below W.heap.size W U → (Instr.lookup 103 (.map (some M)) (.int .u64 d.sq) true).run Try.prog U = .ok (.tuple #[.agg #[.int .u64 f.sq, .int .i64 f.kd, .int .i64 f.sd, .int .i64 f.pr, .int .u64 f.qt, .int .i64 f.ct], .bool b]) U from fun U hU => by
    have := (HS.out.hm.on hU).look d.sq hq
    rw [hb, hf] at this
    exact this)
  rw [hx] at hb
  have HBX := hid hb
  clear h hx hb
  clear hb0 hW hR hok hf
  go_enter Try.func17, Try.ntmps17
  go_upto_region 1 with fail
  rw [HW.out, HR.out]
  refine reg_cut (X := Nat) (fun a t => ((((((((((((a.put (some 8) (.pointer (some ⟨S, 0, none⟩))).put (some 9) (.pointer (some ⟨S, 0, none⟩))).put (some 10) (.pointer (some ⟨S, 4, none⟩))).put (some 11) (.map (some M))).put (some 12) (.pointer (some ⟨R, 0, none⟩))).put (some 13) (.int .u64 d.sq)).put (some 14) (.tuple #[.agg #[.int .u64 f.sq, .int .i64 f.kd, .int .i64 f.sd, .int .i64 f.pr, .int .u64 f.qt, .int .i64 f.ct], .bool b])).put (some 7) (.tuple #[.agg #[.int .u64 f.sq, .int .i64 f.kd, .int .i64 f.sd, .int .i64 f.pr, .int .u64 f.qt, .int .i64 f.ct], .bool b])).put (some 15) (.agg #[.int .u64 f.sq, .int .i64 f.kd, .int .i64 f.sd, .int .i64 f.pr, .int .u64 f.qt, .int .i64 f.ct])).put (some 16) (.bool b)).put (some 5) (.pointer (some ⟨t, 0, none⟩))).put (some 6) (.bool b))) (fun t V => Hid (Below W.heap.size W V)) ?_ ?_
  · obtain ⟨V25, hV25⟩ : ∃ U, W.drew = U := ⟨_, rfl⟩
    have BV25 := hid (show Below W.heap.size W V25 from by rw [← hV25]; exact bdrew1 _)
    have r26 := hid (row_on HSR.out BV25.out)
    have r27 := hid (row_on HD.out BV25.out)
    refine wp_region_held_drew (S := (fun U => U.cell? ⟨S, 4, none⟩ = some (.map (some M)) ∧ U.cell? ⟨R, 0, none⟩ = some (.int .u64 d.sq) ∧ (Instr.lookup 103 (.map (some M)) (.int .u64 d.sq) true).run Try.prog U = .ok (.tuple #[.agg #[.int .u64 f.sq, .int .i64 f.kd, .int .i64 f.sd, .int .i64 f.pr, .int .u64 f.qt, .int .i64 f.ct], .bool b]) U)) (by kernel_rfl) ?_ (fun hHeld => ?_)
    · (try dsimp only); rw [hV25]; exact ⟨row_cell r26.out 4, row_cell r27.out 0, LK.out _ BV25.out⟩
    rw [hV25] at hHeld ⊢
    clear hV25
    refine' wpAnyH_take (i := 0) (oi := _) (v := _) rfl (by kernel_rfl) (by kernel_rfl) (by kernel_rfl) (fun _ _ _ h => h) (Or.inl ⟨by kernel_rfl, ?_⟩) (by assumption) ?_
    rotate_left
    · (intro w hSw; (try dsimp only at hSw); go_simp; try (with_reducible rfl))
    try simp only [List.getElem_toArray, List.getElem_cons_succ, List.getElem_cons_zero, Act.put, List.setIfInBounds_toArray, List.set_cons_zero, List.set_cons_succ]
    refine' wpAnyH_take (i := 1) (oi := _) (v := _) rfl (by kernel_rfl) (by kernel_rfl) (by kernel_rfl) (fun _ _ _ h => h) (Or.inl ⟨by kernel_rfl, ?_⟩) (by assumption) ?_
    rotate_left
    · (intro w hSw; (try dsimp only at hSw); go_simp; try (with_reducible rfl))
    try simp only [List.getElem_toArray, List.getElem_cons_succ, List.getElem_cons_zero, Act.put, List.setIfInBounds_toArray, List.set_cons_zero, List.set_cons_succ]
    refine' wpAnyH_take (i := 2) (oi := _) (v := _) rfl (by kernel_rfl) (by kernel_rfl) (by kernel_rfl) (fun _ _ _ h => h) (Or.inl ⟨by kernel_rfl, ?_⟩) (by assumption) ?_
    rotate_left
    · (intro w hSw; (try dsimp only at hSw); go_simp; try (with_reducible rfl))
    try simp only [List.getElem_toArray, List.getElem_cons_succ, List.getElem_cons_zero, Act.put, List.setIfInBounds_toArray, List.set_cons_zero, List.set_cons_succ]
    refine' wpAnyH_take (i := 3) (oi := _) (v := _) rfl (by kernel_rfl) (by kernel_rfl) (by kernel_rfl) (fun _ _ _ h => h) (Or.inl ⟨by kernel_rfl, ?_⟩) (by assumption) ?_
    rotate_left
    · (intro w hSw; (try dsimp only at hSw); go_simp; try (with_reducible rfl))
    try simp only [List.getElem_toArray, List.getElem_cons_succ, List.getElem_cons_zero, Act.put, List.setIfInBounds_toArray, List.set_cons_zero, List.set_cons_succ]
    refine' wpAnyH_take (i := 4) (oi := _) (v := _) rfl (by kernel_rfl) (by kernel_rfl) (by kernel_rfl) (fun _ _ _ h => h) (Or.inl ⟨by kernel_rfl, ?_⟩) (by assumption) ?_
    rotate_left
    · (intro w hSw; (try dsimp only at hSw); go_simp; try (with_reducible rfl))
    try simp only [List.getElem_toArray, List.getElem_cons_succ, List.getElem_cons_zero, Act.put, List.setIfInBounds_toArray, List.set_cons_zero, List.set_cons_succ]
    refine' wpAnyH_take (i := 5) (oi := _) (v := _) rfl (by kernel_rfl) (by kernel_rfl) (by kernel_rfl) (fun _ _ _ h => h) (Or.inl ⟨by kernel_rfl, ?_⟩) (by assumption) ?_
    rotate_left
    · (intro w hSw; (try dsimp only at hSw); go_simp; try (with_reducible rfl))
    try simp only [List.getElem_toArray, List.getElem_cons_succ, List.getElem_cons_zero, Act.put, List.setIfInBounds_toArray, List.set_cons_zero, List.set_cons_succ]
    refine' wpAnyH_take (i := 6) (oi := _) (v := _) rfl (by kernel_rfl) (by kernel_rfl) (by kernel_rfl) (fun _ _ _ h => h) (Or.inl ⟨by kernel_rfl, ?_⟩) (by assumption) ?_
    rotate_left
    · (intro w hSw; (try dsimp only at hSw); go_simp; try (with_reducible rfl))
    try simp only [List.getElem_toArray, List.getElem_cons_succ, List.getElem_cons_zero, Act.put, List.setIfInBounds_toArray, List.set_cons_zero, List.set_cons_succ]
    refine' wpAnyH_take (i := 7) (oi := _) (v := _) rfl (by kernel_rfl) (by kernel_rfl) (by kernel_rfl) (fun _ _ _ h => h) (Or.inl ⟨by kernel_rfl, ?_⟩) (by assumption) ?_
    rotate_left
    · (intro w hSw; (try dsimp only at hSw); go_simp; try (with_reducible rfl))
    try simp only [List.getElem_toArray, List.getElem_cons_succ, List.getElem_cons_zero, Act.put, List.setIfInBounds_toArray, List.set_cons_zero, List.set_cons_succ]
    refine' wpAnyH_take (i := 8) (oi := _) (v := _) rfl (by kernel_rfl) (by kernel_rfl) (by kernel_rfl) (fun _ _ _ h => h) (Or.inl ⟨by kernel_rfl, ?_⟩) (by assumption) ?_
    rotate_left
    · (intro w hSw; (try dsimp only at hSw); go_simp; try (with_reducible rfl))
    try simp only [List.getElem_toArray, List.getElem_cons_succ, List.getElem_cons_zero, Act.put, List.setIfInBounds_toArray, List.set_cons_zero, List.set_cons_succ]
    refine' wpAnyH_take (i := 9) (oi := _) (v := _) rfl (by kernel_rfl) (by kernel_rfl) (by kernel_rfl) (fun _ _ _ h => h) (Or.inl ⟨by kernel_rfl, ?_⟩) (by assumption) ?_
    rotate_left
    · (intro w hSw; (try dsimp only at hSw); go_simp; try (with_reducible rfl))
    try simp only [List.getElem_toArray, List.getElem_cons_succ, List.getElem_cons_zero, Act.put, List.setIfInBounds_toArray, List.set_cons_zero, List.set_cons_succ]
    refine wpAnyH_ready (rs := [10]) (by kernel_rfl) (by simp) ?_
    refine (AllReadyH.cons (o := _) rfl (fun K hK => ?_) AllReadyH.nil)
    go_simp
    obtain ⟨X28, hX28⟩ : ∃ X, V25.alloc (.cells #[.int .u64 0, .int .i64 0, .int .i64 0, .int .i64 0, .int .u64 0, .int .i64 0] 47) = X := ⟨_, rfl⟩
    have bX28 : Below V25.heap.size V25 X28 := by rw [← hX28]; exact ball _ _
    have r30 := hid (row_on r26.out bX28)
    have r31 := hid (row_on r27.out bX28)
    have DX28 := hid (btr BV25.out bX28)
    have zX28 : X28.heap[V25.heap.size]? = some (.cells #[.int .u64 0, .int .i64 0, .int .i64 0, .int .i64 0, .int .u64 0, .int .i64 0] 47 (0, 0)) := by rw [← hX28]; exact World.alloc_heap_new _ _
    have yg29 := BV25.out.size
    obtain ⟨g29, hg29⟩ : ∃ g, V25.heap.size = g := ⟨_, rfl⟩
    have n32 : g29 ≠ S := by have := row_lt r26.out; omega
    have n33 : g29 ≠ R := by have := row_lt r27.out; omega
    rw [hg29] at zX28 yg29
    have ZX28 := hid zX28
    rw [hX28, hg29]
    clear hX28 hg29 zX28 bX28
    refine hK.out _ _ ?_ (fun hHeld => ?_)
    · (try dsimp only); exact ⟨row_cell r30.out 4, row_cell r31.out 0, LK.out _ DX28.out⟩
    clear hK K
    try simp only [List.getElem_toArray, List.getElem_cons_succ, List.getElem_cons_zero, Act.put, List.setIfInBounds_toArray, List.set_cons_zero, List.set_cons_succ]
    refine wpAnyH_ready (rs := [11]) (by kernel_rfl) (by simp) ?_
    refine (AllReadyH.cons (o := _) rfl (fun K hK => ?_) AllReadyH.nil)
    refine step_store_row (by rfl) 47 (.tmp 5) (.tmp 15) (by rfl) g29 #[.int .u64 f.sq, .int .i64 f.kd, .int .i64 f.sd, .int .i64 f.pr, .int .u64 f.qt, .int .i64 f.ct] (by rfl) (by rfl) 47 _ ZX28.out infoD (by rfl) (by simp [Value.oneCell']) ?_
    obtain ⟨Y34, hY34⟩ : ∃ Y, X28.setRow g29 #[.int .u64 f.sq, .int .i64 f.kd, .int .i64 f.sd, .int .i64 f.pr, .int .u64 f.qt, .int .i64 f.ct] = Y := ⟨_, rfl⟩
    have KY34 := hid (show Kp (fun j => j = g29) X28 Y34 from by rw [← hY34]; exact setRow_kp _ _ _)
    have AY34 := hid (show Y34.heap[g29]? = some (.cells #[.int .u64 f.sq, .int .i64 f.kd, .int .i64 f.sd, .int .i64 f.pr, .int .u64 f.qt, .int .i64 f.ct] 47 (0, 0)) from by rw [← hY34]; exact setRow_heap X28 g29 _ _ 47 (0, 0) ZX28.out)
    have DY34 := hid (show Below W.heap.size W Y34 from by rw [← hY34]; exact setRow_below DX28.out yg29)
    have r35 := hid (KY34.out.row r30.out (fun e => n32.symm e))
    have r36 := hid (KY34.out.row r31.out (fun e => n33.symm e))
    rw [hY34]
    refine hK.out _ _ ?_ (fun hHeld => ?_)
    · (try dsimp only); exact ⟨row_cell r35.out 4, row_cell r36.out 0, LK.out _ DY34.out⟩
    clear hK K hY34
    try simp only [List.getElem_toArray, List.getElem_cons_succ, List.getElem_cons_zero, Act.put, List.setIfInBounds_toArray, List.set_cons_zero, List.set_cons_succ]
    refine' wpAnyH_take (i := 12) (oi := _) (v := _) rfl (by kernel_rfl) (by kernel_rfl) (by kernel_rfl) (fun _ _ _ h => h) (Or.inl ⟨by kernel_rfl, ?_⟩) (by assumption) ?_
    rotate_left
    · (intro w hSw; (try dsimp only at hSw); go_simp; try (with_reducible rfl))
    try simp only [List.getElem_toArray, List.getElem_cons_succ, List.getElem_cons_zero, Act.put, List.setIfInBounds_toArray, List.set_cons_zero, List.set_cons_succ]
    refine wpAnyH_done (by kernel_rfl) ?_ _
    exact ⟨g29, by kernel_rfl, DY34⟩
  · rintro P V BVH
    have BV := BVH.out
    try simp only [List.getElem_toArray, List.getElem_cons_succ, List.getElem_cons_zero, Act.put, List.setIfInBounds_toArray, List.set_cons_zero, List.set_cons_succ]
    obtain ⟨j0, j1, j2, j3, j4, j5⟩ := row6 (row_on HD.out BV)
    have hbx := HBX.out
    subst hbx
    go_upto_region 4 with (go_at_call 39; with_reducible refine (CB.out _).mono ?_; rintro e V1 ⟨rfl, hb⟩; have BV1 := hid (btr BV hb); clear hb)
    clear j0 j1 j2 j3 j4 j5 LK
    have HS1 := hid (HS.out.on BV1.out)
    have HD1 := hid (row_on HD.out BV1.out)
    obtain ⟨k0, k1, k2, k3, k4, k5⟩ := row12 HS1.out.row
    obtain ⟨j0, j1, j2, j3, j4, j5⟩ := row6 HD1.out
    have g1 : decide (d.sq ≤ sq) = false := by simp; omega
    have g2 : ¬ d.sq ≤ sq := by omega
    go_quiet (fail)
    go_wp2
    go_ret
    exact ⟨rfl, btr HB.out (btr BV1.out (bdrew _ _))⟩
theorem take_full {w : World} {S M nm : Nat} {sq hold gr : Int} {p1 : Option Addr} {c1 : Nat} {l1 : List Lv} {p2 : Option Addr} {c2 : Nat} {l2 : List Lv} {L : List Dm} {la : Dm} (h : Sb w S M nm sq hold gr p1 c1 l1 p2 c2 l2 L la) (d : Dm) (hok : dOk d = true) (hq : 0 ≤ d.sq ∧ d.sq < 18446744073709551616) (hx : L.any (fun x => x.sq == d.sq) = false) (hlt : sq < d.sq) (hgap : 1 < d.sq - sq) (hr : ¬ (L.length : Int) < hold) :
    Calls Try.prog 17 #[.pointer (some ⟨S, 0, none⟩), .agg #[.int .u64 d.sq, .int .i64 d.kd, .int .i64 d.sd, .int .i64 d.pr, .int .u64 d.qt, .int .i64 d.ct]] w fun e w' => e = .returned (.int .i64 181) ∧ Sb w' S M nm sq hold (max gr d.sq) p1 c1 l1 p2 c2 l2 L la ∧ Kp (fun g => g = S) w w' := by
  obtain ⟨R, hR⟩ : ∃ R, w.heap.size = R := ⟨_, rfl⟩
  obtain ⟨W, hW⟩ : ∃ W, w.alloc (.cells #[.int .u64 d.sq, .int .i64 d.kd, .int .i64 d.sd, .int .i64 d.pr, .int .u64 d.qt, .int .i64 d.ct] 47) = W := ⟨_, rfl⟩
  have hb0 : Below w.heap.size w W := by rw [← hW]; exact ball _ _
  have HD := hid (show W.heap[R]? = some (.cells #[.int .u64 d.sq, .int .i64 d.kd, .int .i64 d.sd, .int .i64 d.pr, .int .u64 d.qt, .int .i64 d.ct] 47 (0, 0)) from by rw [← hW, ← hR]; exact World.alloc_heap_new _ _)
  have HS := hid (h.on hb0)
  have HSR := hid HS.out.row
  have HB := hid hb0
  have HW := hid hW
  have HR := hid hR
  have CB := hid (fun U => canBe_any d U)
  rw [hok] at CB
  obtain ⟨f, hf⟩ : ∃ f, fnd L d.sq = f := ⟨_, rfl⟩
  obtain ⟨b, hb⟩ : ∃ b, L.any (fun x => x.sq == d.sq) = b := ⟨_, rfl⟩
  have LK := hid (show ∀ U, Below W.heap.size W U → (Instr.lookup 103 (.map (some M)) (.int .u64 d.sq) true).run Try.prog U = .ok (.tuple #[.agg #[.int .u64 f.sq, .int .i64 f.kd, .int .i64 f.sd, .int .i64 f.pr, .int .u64 f.qt, .int .i64 f.ct], .bool b]) U from fun U hU => by
    have := (HS.out.hm.on hU).look d.sq hq
    rw [hb, hf] at this
    exact this)
  obtain ⟨G, hG⟩ : ∃ G, max gr d.sq = G := ⟨_, rfl⟩
  have HG := hid (show 0 ≤ G ∧ G < 18446744073709551616 from by rw [← hG]; have := h.gr; omega)
  have hsq := h.sq
  rw [hG]
  rw [hx] at hb
  have HBX := hid hb
  clear hb
  have gw : IntKind.u64.wrap (d.sq - sq) = d.sq - sq := by rw [IntKind.wrap_u64]; have := h.sq; omega
  have HNR := hid hr
  clear h hx hr
  clear hb0 hW hR hok hf
  go_enter Try.func17, Try.ntmps17
  go_upto_region 1 with fail
  rw [HW.out, HR.out]
  refine reg_cut (X := Nat) (fun a t => ((((((((((((a.put (some 8) (.pointer (some ⟨S, 0, none⟩))).put (some 9) (.pointer (some ⟨S, 0, none⟩))).put (some 10) (.pointer (some ⟨S, 4, none⟩))).put (some 11) (.map (some M))).put (some 12) (.pointer (some ⟨R, 0, none⟩))).put (some 13) (.int .u64 d.sq)).put (some 14) (.tuple #[.agg #[.int .u64 f.sq, .int .i64 f.kd, .int .i64 f.sd, .int .i64 f.pr, .int .u64 f.qt, .int .i64 f.ct], .bool b])).put (some 7) (.tuple #[.agg #[.int .u64 f.sq, .int .i64 f.kd, .int .i64 f.sd, .int .i64 f.pr, .int .u64 f.qt, .int .i64 f.ct], .bool b])).put (some 15) (.agg #[.int .u64 f.sq, .int .i64 f.kd, .int .i64 f.sd, .int .i64 f.pr, .int .u64 f.qt, .int .i64 f.ct])).put (some 16) (.bool b)).put (some 5) (.pointer (some ⟨t, 0, none⟩))).put (some 6) (.bool b))) (fun t V => Hid (Below W.heap.size W V)) ?_ ?_
  · obtain ⟨V37, hV37⟩ : ∃ U, W.drew = U := ⟨_, rfl⟩
    have BV37 := hid (show Below W.heap.size W V37 from by rw [← hV37]; exact bdrew1 _)
    have r38 := hid (row_on HSR.out BV37.out)
    have r39 := hid (row_on HD.out BV37.out)
    refine wp_region_held_drew (S := (fun U => U.cell? ⟨S, 4, none⟩ = some (.map (some M)) ∧ U.cell? ⟨R, 0, none⟩ = some (.int .u64 d.sq) ∧ (Instr.lookup 103 (.map (some M)) (.int .u64 d.sq) true).run Try.prog U = .ok (.tuple #[.agg #[.int .u64 f.sq, .int .i64 f.kd, .int .i64 f.sd, .int .i64 f.pr, .int .u64 f.qt, .int .i64 f.ct], .bool b]) U)) (by kernel_rfl) ?_ (fun hHeld => ?_)
    · (try dsimp only); rw [hV37]; exact ⟨row_cell r38.out 4, row_cell r39.out 0, LK.out _ BV37.out⟩
    rw [hV37] at hHeld ⊢
    clear hV37
    refine' wpAnyH_take (i := 0) (oi := _) (v := _) rfl (by kernel_rfl) (by kernel_rfl) (by kernel_rfl) (fun _ _ _ h => h) (Or.inl ⟨by kernel_rfl, ?_⟩) (by assumption) ?_
    rotate_left
    · (intro w hSw; (try dsimp only at hSw); go_simp; try (with_reducible rfl))
    try simp only [List.getElem_toArray, List.getElem_cons_succ, List.getElem_cons_zero, Act.put, List.setIfInBounds_toArray, List.set_cons_zero, List.set_cons_succ]
    refine' wpAnyH_take (i := 1) (oi := _) (v := _) rfl (by kernel_rfl) (by kernel_rfl) (by kernel_rfl) (fun _ _ _ h => h) (Or.inl ⟨by kernel_rfl, ?_⟩) (by assumption) ?_
    rotate_left
    · (intro w hSw; (try dsimp only at hSw); go_simp; try (with_reducible rfl))
    try simp only [List.getElem_toArray, List.getElem_cons_succ, List.getElem_cons_zero, Act.put, List.setIfInBounds_toArray, List.set_cons_zero, List.set_cons_succ]
    refine' wpAnyH_take (i := 2) (oi := _) (v := _) rfl (by kernel_rfl) (by kernel_rfl) (by kernel_rfl) (fun _ _ _ h => h) (Or.inl ⟨by kernel_rfl, ?_⟩) (by assumption) ?_
    rotate_left
    · (intro w hSw; (try dsimp only at hSw); go_simp; try (with_reducible rfl))
    try simp only [List.getElem_toArray, List.getElem_cons_succ, List.getElem_cons_zero, Act.put, List.setIfInBounds_toArray, List.set_cons_zero, List.set_cons_succ]
    refine' wpAnyH_take (i := 3) (oi := _) (v := _) rfl (by kernel_rfl) (by kernel_rfl) (by kernel_rfl) (fun _ _ _ h => h) (Or.inl ⟨by kernel_rfl, ?_⟩) (by assumption) ?_
    rotate_left
    · (intro w hSw; (try dsimp only at hSw); go_simp; try (with_reducible rfl))
    try simp only [List.getElem_toArray, List.getElem_cons_succ, List.getElem_cons_zero, Act.put, List.setIfInBounds_toArray, List.set_cons_zero, List.set_cons_succ]
    refine' wpAnyH_take (i := 4) (oi := _) (v := _) rfl (by kernel_rfl) (by kernel_rfl) (by kernel_rfl) (fun _ _ _ h => h) (Or.inl ⟨by kernel_rfl, ?_⟩) (by assumption) ?_
    rotate_left
    · (intro w hSw; (try dsimp only at hSw); go_simp; try (with_reducible rfl))
    try simp only [List.getElem_toArray, List.getElem_cons_succ, List.getElem_cons_zero, Act.put, List.setIfInBounds_toArray, List.set_cons_zero, List.set_cons_succ]
    refine' wpAnyH_take (i := 5) (oi := _) (v := _) rfl (by kernel_rfl) (by kernel_rfl) (by kernel_rfl) (fun _ _ _ h => h) (Or.inl ⟨by kernel_rfl, ?_⟩) (by assumption) ?_
    rotate_left
    · (intro w hSw; (try dsimp only at hSw); go_simp; try (with_reducible rfl))
    try simp only [List.getElem_toArray, List.getElem_cons_succ, List.getElem_cons_zero, Act.put, List.setIfInBounds_toArray, List.set_cons_zero, List.set_cons_succ]
    refine' wpAnyH_take (i := 6) (oi := _) (v := _) rfl (by kernel_rfl) (by kernel_rfl) (by kernel_rfl) (fun _ _ _ h => h) (Or.inl ⟨by kernel_rfl, ?_⟩) (by assumption) ?_
    rotate_left
    · (intro w hSw; (try dsimp only at hSw); go_simp; try (with_reducible rfl))
    try simp only [List.getElem_toArray, List.getElem_cons_succ, List.getElem_cons_zero, Act.put, List.setIfInBounds_toArray, List.set_cons_zero, List.set_cons_succ]
    refine' wpAnyH_take (i := 7) (oi := _) (v := _) rfl (by kernel_rfl) (by kernel_rfl) (by kernel_rfl) (fun _ _ _ h => h) (Or.inl ⟨by kernel_rfl, ?_⟩) (by assumption) ?_
    rotate_left
    · (intro w hSw; (try dsimp only at hSw); go_simp; try (with_reducible rfl))
    try simp only [List.getElem_toArray, List.getElem_cons_succ, List.getElem_cons_zero, Act.put, List.setIfInBounds_toArray, List.set_cons_zero, List.set_cons_succ]
    refine' wpAnyH_take (i := 8) (oi := _) (v := _) rfl (by kernel_rfl) (by kernel_rfl) (by kernel_rfl) (fun _ _ _ h => h) (Or.inl ⟨by kernel_rfl, ?_⟩) (by assumption) ?_
    rotate_left
    · (intro w hSw; (try dsimp only at hSw); go_simp; try (with_reducible rfl))
    try simp only [List.getElem_toArray, List.getElem_cons_succ, List.getElem_cons_zero, Act.put, List.setIfInBounds_toArray, List.set_cons_zero, List.set_cons_succ]
    refine' wpAnyH_take (i := 9) (oi := _) (v := _) rfl (by kernel_rfl) (by kernel_rfl) (by kernel_rfl) (fun _ _ _ h => h) (Or.inl ⟨by kernel_rfl, ?_⟩) (by assumption) ?_
    rotate_left
    · (intro w hSw; (try dsimp only at hSw); go_simp; try (with_reducible rfl))
    try simp only [List.getElem_toArray, List.getElem_cons_succ, List.getElem_cons_zero, Act.put, List.setIfInBounds_toArray, List.set_cons_zero, List.set_cons_succ]
    refine wpAnyH_ready (rs := [10]) (by kernel_rfl) (by simp) ?_
    refine (AllReadyH.cons (o := _) rfl (fun K hK => ?_) AllReadyH.nil)
    go_simp
    obtain ⟨X40, hX40⟩ : ∃ X, V37.alloc (.cells #[.int .u64 0, .int .i64 0, .int .i64 0, .int .i64 0, .int .u64 0, .int .i64 0] 47) = X := ⟨_, rfl⟩
    have bX40 : Below V37.heap.size V37 X40 := by rw [← hX40]; exact ball _ _
    have r42 := hid (row_on r38.out bX40)
    have r43 := hid (row_on r39.out bX40)
    have DX40 := hid (btr BV37.out bX40)
    have zX40 : X40.heap[V37.heap.size]? = some (.cells #[.int .u64 0, .int .i64 0, .int .i64 0, .int .i64 0, .int .u64 0, .int .i64 0] 47 (0, 0)) := by rw [← hX40]; exact World.alloc_heap_new _ _
    have yg41 := BV37.out.size
    obtain ⟨g41, hg41⟩ : ∃ g, V37.heap.size = g := ⟨_, rfl⟩
    have n44 : g41 ≠ S := by have := row_lt r38.out; omega
    have n45 : g41 ≠ R := by have := row_lt r39.out; omega
    rw [hg41] at zX40 yg41
    have ZX40 := hid zX40
    rw [hX40, hg41]
    clear hX40 hg41 zX40 bX40
    refine hK.out _ _ ?_ (fun hHeld => ?_)
    · (try dsimp only); exact ⟨row_cell r42.out 4, row_cell r43.out 0, LK.out _ DX40.out⟩
    clear hK K
    try simp only [List.getElem_toArray, List.getElem_cons_succ, List.getElem_cons_zero, Act.put, List.setIfInBounds_toArray, List.set_cons_zero, List.set_cons_succ]
    refine wpAnyH_ready (rs := [11]) (by kernel_rfl) (by simp) ?_
    refine (AllReadyH.cons (o := _) rfl (fun K hK => ?_) AllReadyH.nil)
    refine step_store_row (by rfl) 47 (.tmp 5) (.tmp 15) (by rfl) g41 #[.int .u64 f.sq, .int .i64 f.kd, .int .i64 f.sd, .int .i64 f.pr, .int .u64 f.qt, .int .i64 f.ct] (by rfl) (by rfl) 47 _ ZX40.out infoD (by rfl) (by simp [Value.oneCell']) ?_
    obtain ⟨Y46, hY46⟩ : ∃ Y, X40.setRow g41 #[.int .u64 f.sq, .int .i64 f.kd, .int .i64 f.sd, .int .i64 f.pr, .int .u64 f.qt, .int .i64 f.ct] = Y := ⟨_, rfl⟩
    have KY46 := hid (show Kp (fun j => j = g41) X40 Y46 from by rw [← hY46]; exact setRow_kp _ _ _)
    have AY46 := hid (show Y46.heap[g41]? = some (.cells #[.int .u64 f.sq, .int .i64 f.kd, .int .i64 f.sd, .int .i64 f.pr, .int .u64 f.qt, .int .i64 f.ct] 47 (0, 0)) from by rw [← hY46]; exact setRow_heap X40 g41 _ _ 47 (0, 0) ZX40.out)
    have DY46 := hid (show Below W.heap.size W Y46 from by rw [← hY46]; exact setRow_below DX40.out yg41)
    have r47 := hid (KY46.out.row r42.out (fun e => n44.symm e))
    have r48 := hid (KY46.out.row r43.out (fun e => n45.symm e))
    rw [hY46]
    refine hK.out _ _ ?_ (fun hHeld => ?_)
    · (try dsimp only); exact ⟨row_cell r47.out 4, row_cell r48.out 0, LK.out _ DY46.out⟩
    clear hK K hY46
    try simp only [List.getElem_toArray, List.getElem_cons_succ, List.getElem_cons_zero, Act.put, List.setIfInBounds_toArray, List.set_cons_zero, List.set_cons_succ]
    refine' wpAnyH_take (i := 12) (oi := _) (v := _) rfl (by kernel_rfl) (by kernel_rfl) (by kernel_rfl) (fun _ _ _ h => h) (Or.inl ⟨by kernel_rfl, ?_⟩) (by assumption) ?_
    rotate_left
    · (intro w hSw; (try dsimp only at hSw); go_simp; try (with_reducible rfl))
    try simp only [List.getElem_toArray, List.getElem_cons_succ, List.getElem_cons_zero, Act.put, List.setIfInBounds_toArray, List.set_cons_zero, List.set_cons_succ]
    refine wpAnyH_done (by kernel_rfl) ?_ _
    exact ⟨g41, by kernel_rfl, DY46⟩
  · rintro P V BVH
    have BV := BVH.out
    try simp only [List.getElem_toArray, List.getElem_cons_succ, List.getElem_cons_zero, Act.put, List.setIfInBounds_toArray, List.set_cons_zero, List.set_cons_succ]
    obtain ⟨j0, j1, j2, j3, j4, j5⟩ := row6 (row_on HD.out BV)
    have hbx := HBX.out
    subst hbx
    go_upto_region 4 with (go_at_call 39; with_reducible refine (CB.out _).mono ?_; rintro e V1 ⟨rfl, hb⟩; have BV1 := hid (btr BV hb); clear hb)
    clear j0 j1 j2 j3 j4 j5 LK
    have HS1 := hid (HS.out.on BV1.out)
    have HD1 := hid (row_on HD.out BV1.out)
    obtain ⟨k0, k1, k2, k3, k4, k5⟩ := row12 HS1.out.row
    obtain ⟨j0, j1, j2, j3, j4, j5⟩ := row6 HD1.out
    have g1 : decide (d.sq ≤ sq) = false := by simp; omega
    have g2 : ¬ d.sq ≤ sq := by omega
    go_quiet (fail)
    go_upto_region 6 with fail
    obtain ⟨V2, hV2⟩ : ∃ V2, V1.drewN nq = V2 := ⟨_, rfl⟩
    have BV2 := hid (show Below V1.heap.size V1 V2 from by rw [← hV2]; exact bdrew _ _)
    rw [hV2]
    clear hV2 k0 k1 k2 k3 k4 k5 j0 j1 j2 j3 j4 j5
    have HS2 := hid (HS1.out.on BV2.out)
    have HD2 := hid (row_on HD1.out BV2.out)
    have k5 := row_cell HS2.out.row 5
    have f5 := row_frz HS2.out.row 5
    obtain ⟨j0, j1, j2, j3, j4, j5⟩ := row6 HD2.out
    go_region_law fail
    all_goals
      clear k5 f5 j0 j1 j2 j3 j4 j5
      obtain ⟨V3, hV3⟩ : ∃ V3, (V2.setCell ⟨S, 5, none⟩ (.int .u64 G)).drew = V3 := ⟨_, rfl⟩
      have hs2 := HS2.out
      have K3 := hid (show Kp (fun g => g = S) V2 V3 from by rw [← hV3]; exact (Kp.set _ _ _ _).trans (Kp.of (fun _ => False) (bdrew1 _)) (fun _ _ h => h.elim))
      have HS3 := hid (show Sb V3 S M nm sq _ G p1 c1 l1 p2 c2 l2 L la from ⟨by rw [← hV3]; exact row_on (set_row _ hs2.row) (bdrew1 _), hs2.o1.kept K3.out (fun g hg e => by obtain ⟨cu, hc⟩ := hs2.o1.ty hg; exact row_ne hc hs2.row (by decide) e), hs2.o2.kept K3.out (fun g hg e => by obtain ⟨cu, hc⟩ := hs2.o2.ty hg; exact row_ne hc hs2.row (by decide) e), hs2.k1, hs2.k2, hs2.hm.kept K3.out (fun e => map_ne hs2.hm hs2.row e), hs2.sq, HG.out⟩)
      have HD3 := hid (K3.out.row HD2.out (fun e => row_ne HD2.out hs2.row (by decide) e))
      have KV3 := hid (show Kp (fun g => g = S) w V3 from (Kp.of _ (btr (btr HB.out BV1.out) BV2.out)).trans K3.out (fun _ _ h => h))
      rw [hV3]
      clear hV3 hs2 K3
      obtain ⟨k0, k1, k2, k3, k4, k5⟩ := row12 HS3.out.row
      obtain ⟨j0, j1, j2, j3, j4, j5⟩ := row6 HD3.out
      go_upto_region 7 with fail
      go_quiet (fail)
      obtain ⟨V4, hV4⟩ : ∃ V4, V3.drewN nq = V4 := ⟨_, rfl⟩
      have BV4 := hid (show Below V3.heap.size V3 V4 from by rw [← hV4]; exact bdrew _ _)
      rw [hV4]
      clear hV4 k0 k1 k2 k3 k4 k5 j0 j1 j2 j3 j4 j5
      have HS4 := hid (HS3.out.on BV4.out)
      have KV4 := hid (show Kp (fun g => g = S) w V4 from KV3.out.trans (Kp.of (fun _ => False) BV4.out) (fun _ _ h => h.elim))
      have HD4 := hid (row_on HD3.out BV4.out)
      obtain ⟨j0, j1, j2, j3, j4, j5⟩ := row6 HD4.out
      have CK := hid (keep_full HS4.out d (by have := HNR.out; omega))
      go_wp2_with (go_at_call 40; with_reducible refine (CK.out).mono ?_; rintro e V5 ⟨rfl, h1⟩; have F1 := hid h1; clear h1)
      go_ret
      exact ⟨rfl, HS4.out.on F1.out, KV4.out.trans (Kp.of (fun _ => False) F1.out) (fun _ _ h => h.elim)⟩
theorem take_nx {w : World} {S M nm : Nat} {sq hold gr : Int} {p1 : Option Addr} {c1 : Nat} {l1 : List Lv} {p2 : Option Addr} {c2 : Nat} {l2 : List Lv} {L : List Dm} {la : Dm} (h : Sb w S M nm sq hold gr p1 c1 l1 p2 c2 l2 L la) (d : Dm) (hok : dOk d = true) (hq : 0 ≤ d.sq ∧ d.sq < 18446744073709551616) (ap : ∀ g, OfP p1 g → ¬ OfP p2 g) (H : Nat) (hH : hold = H) (hg : Sg H ⟨sq, gr, l1, l2, L, la⟩) (hx : L.any (fun x => x.sq == d.sq) = false) (hnx : d.sq = sq + 1) :
    Calls Try.prog 17 #[.pointer (some ⟨S, 0, none⟩), .agg #[.int .u64 d.sq, .int .i64 d.kd, .int .i64 d.sd, .int .i64 d.pr, .int .u64 d.qt, .int .i64 d.ct]] w fun e w' => e = .returned (.int .i64 0) ∧ Bhd w S M nm H (goS (doS ⟨sq, max gr d.sq, l1, l2, L, la⟩ d)) p1 p2 w' := by
  obtain ⟨R, hR⟩ : ∃ R, w.heap.size = R := ⟨_, rfl⟩
  obtain ⟨W, hW⟩ : ∃ W, w.alloc (.cells #[.int .u64 d.sq, .int .i64 d.kd, .int .i64 d.sd, .int .i64 d.pr, .int .u64 d.qt, .int .i64 d.ct] 47) = W := ⟨_, rfl⟩
  have hb0 : Below w.heap.size w W := by rw [← hW]; exact ball _ _
  have HD := hid (show W.heap[R]? = some (.cells #[.int .u64 d.sq, .int .i64 d.kd, .int .i64 d.sd, .int .i64 d.pr, .int .u64 d.qt, .int .i64 d.ct] 47 (0, 0)) from by rw [← hW, ← hR]; exact World.alloc_heap_new _ _)
  have HS := hid (h.on hb0)
  have HSR := hid HS.out.row
  have HB := hid hb0
  have HW := hid hW
  have HR := hid hR
  have CB := hid (fun U => canBe_any d U)
  rw [hok] at CB
  obtain ⟨f, hf⟩ : ∃ f, fnd L d.sq = f := ⟨_, rfl⟩
  obtain ⟨b, hb⟩ : ∃ b, L.any (fun x => x.sq == d.sq) = b := ⟨_, rfl⟩
  have LK := hid (show ∀ U, Below W.heap.size W U → (Instr.lookup 103 (.map (some M)) (.int .u64 d.sq) true).run Try.prog U = .ok (.tuple #[.agg #[.int .u64 f.sq, .int .i64 f.kd, .int .i64 f.sd, .int .i64 f.pr, .int .u64 f.qt, .int .i64 f.ct], .bool b]) U from fun U hU => by
    have := (HS.out.hm.on hU).look d.sq hq
    rw [hb, hf] at this
    exact this)
  have HOK := hid hok
  have HGU := hid (hg.up hq)
  obtain ⟨G, hG⟩ : ∃ G, max gr d.sq = G := ⟨_, rfl⟩
  have HG := hid (show 0 ≤ G ∧ G < 18446744073709551616 from by rw [← hG]; have := h.gr; omega)
  have hsq := h.sq
  rw [hG] at HGU ⊢
  rw [hx] at hb
  have HBX := hid hb
  clear hb
  have gw : IntKind.u64.wrap (d.sq - sq) = 1 := by rw [IntKind.wrap_u64]; have := h.sq; omega
  have hlt : sq < d.sq := by omega
  have HAP := hid ap
  subst hH
  clear h hx hnx hg ap
  clear hb0 hW hR hok hf
  go_enter Try.func17, Try.ntmps17
  go_upto_region 1 with fail
  rw [HW.out, HR.out]
  refine reg_cut (X := Nat) (fun a t => ((((((((((((a.put (some 8) (.pointer (some ⟨S, 0, none⟩))).put (some 9) (.pointer (some ⟨S, 0, none⟩))).put (some 10) (.pointer (some ⟨S, 4, none⟩))).put (some 11) (.map (some M))).put (some 12) (.pointer (some ⟨R, 0, none⟩))).put (some 13) (.int .u64 d.sq)).put (some 14) (.tuple #[.agg #[.int .u64 f.sq, .int .i64 f.kd, .int .i64 f.sd, .int .i64 f.pr, .int .u64 f.qt, .int .i64 f.ct], .bool b])).put (some 7) (.tuple #[.agg #[.int .u64 f.sq, .int .i64 f.kd, .int .i64 f.sd, .int .i64 f.pr, .int .u64 f.qt, .int .i64 f.ct], .bool b])).put (some 15) (.agg #[.int .u64 f.sq, .int .i64 f.kd, .int .i64 f.sd, .int .i64 f.pr, .int .u64 f.qt, .int .i64 f.ct])).put (some 16) (.bool b)).put (some 5) (.pointer (some ⟨t, 0, none⟩))).put (some 6) (.bool b))) (fun t V => Hid (Below W.heap.size W V)) ?_ ?_
  · obtain ⟨V49, hV49⟩ : ∃ U, W.drew = U := ⟨_, rfl⟩
    have BV49 := hid (show Below W.heap.size W V49 from by rw [← hV49]; exact bdrew1 _)
    have r50 := hid (row_on HSR.out BV49.out)
    have r51 := hid (row_on HD.out BV49.out)
    refine wp_region_held_drew (S := (fun U => U.cell? ⟨S, 4, none⟩ = some (.map (some M)) ∧ U.cell? ⟨R, 0, none⟩ = some (.int .u64 d.sq) ∧ (Instr.lookup 103 (.map (some M)) (.int .u64 d.sq) true).run Try.prog U = .ok (.tuple #[.agg #[.int .u64 f.sq, .int .i64 f.kd, .int .i64 f.sd, .int .i64 f.pr, .int .u64 f.qt, .int .i64 f.ct], .bool b]) U)) (by kernel_rfl) ?_ (fun hHeld => ?_)
    · (try dsimp only); rw [hV49]; exact ⟨row_cell r50.out 4, row_cell r51.out 0, LK.out _ BV49.out⟩
    rw [hV49] at hHeld ⊢
    clear hV49
    refine' wpAnyH_take (i := 0) (oi := _) (v := _) rfl (by kernel_rfl) (by kernel_rfl) (by kernel_rfl) (fun _ _ _ h => h) (Or.inl ⟨by kernel_rfl, ?_⟩) (by assumption) ?_
    rotate_left
    · (intro w hSw; (try dsimp only at hSw); go_simp; try (with_reducible rfl))
    try simp only [List.getElem_toArray, List.getElem_cons_succ, List.getElem_cons_zero, Act.put, List.setIfInBounds_toArray, List.set_cons_zero, List.set_cons_succ]
    refine' wpAnyH_take (i := 1) (oi := _) (v := _) rfl (by kernel_rfl) (by kernel_rfl) (by kernel_rfl) (fun _ _ _ h => h) (Or.inl ⟨by kernel_rfl, ?_⟩) (by assumption) ?_
    rotate_left
    · (intro w hSw; (try dsimp only at hSw); go_simp; try (with_reducible rfl))
    try simp only [List.getElem_toArray, List.getElem_cons_succ, List.getElem_cons_zero, Act.put, List.setIfInBounds_toArray, List.set_cons_zero, List.set_cons_succ]
    refine' wpAnyH_take (i := 2) (oi := _) (v := _) rfl (by kernel_rfl) (by kernel_rfl) (by kernel_rfl) (fun _ _ _ h => h) (Or.inl ⟨by kernel_rfl, ?_⟩) (by assumption) ?_
    rotate_left
    · (intro w hSw; (try dsimp only at hSw); go_simp; try (with_reducible rfl))
    try simp only [List.getElem_toArray, List.getElem_cons_succ, List.getElem_cons_zero, Act.put, List.setIfInBounds_toArray, List.set_cons_zero, List.set_cons_succ]
    refine' wpAnyH_take (i := 3) (oi := _) (v := _) rfl (by kernel_rfl) (by kernel_rfl) (by kernel_rfl) (fun _ _ _ h => h) (Or.inl ⟨by kernel_rfl, ?_⟩) (by assumption) ?_
    rotate_left
    · (intro w hSw; (try dsimp only at hSw); go_simp; try (with_reducible rfl))
    try simp only [List.getElem_toArray, List.getElem_cons_succ, List.getElem_cons_zero, Act.put, List.setIfInBounds_toArray, List.set_cons_zero, List.set_cons_succ]
    refine' wpAnyH_take (i := 4) (oi := _) (v := _) rfl (by kernel_rfl) (by kernel_rfl) (by kernel_rfl) (fun _ _ _ h => h) (Or.inl ⟨by kernel_rfl, ?_⟩) (by assumption) ?_
    rotate_left
    · (intro w hSw; (try dsimp only at hSw); go_simp; try (with_reducible rfl))
    try simp only [List.getElem_toArray, List.getElem_cons_succ, List.getElem_cons_zero, Act.put, List.setIfInBounds_toArray, List.set_cons_zero, List.set_cons_succ]
    refine' wpAnyH_take (i := 5) (oi := _) (v := _) rfl (by kernel_rfl) (by kernel_rfl) (by kernel_rfl) (fun _ _ _ h => h) (Or.inl ⟨by kernel_rfl, ?_⟩) (by assumption) ?_
    rotate_left
    · (intro w hSw; (try dsimp only at hSw); go_simp; try (with_reducible rfl))
    try simp only [List.getElem_toArray, List.getElem_cons_succ, List.getElem_cons_zero, Act.put, List.setIfInBounds_toArray, List.set_cons_zero, List.set_cons_succ]
    refine' wpAnyH_take (i := 6) (oi := _) (v := _) rfl (by kernel_rfl) (by kernel_rfl) (by kernel_rfl) (fun _ _ _ h => h) (Or.inl ⟨by kernel_rfl, ?_⟩) (by assumption) ?_
    rotate_left
    · (intro w hSw; (try dsimp only at hSw); go_simp; try (with_reducible rfl))
    try simp only [List.getElem_toArray, List.getElem_cons_succ, List.getElem_cons_zero, Act.put, List.setIfInBounds_toArray, List.set_cons_zero, List.set_cons_succ]
    refine' wpAnyH_take (i := 7) (oi := _) (v := _) rfl (by kernel_rfl) (by kernel_rfl) (by kernel_rfl) (fun _ _ _ h => h) (Or.inl ⟨by kernel_rfl, ?_⟩) (by assumption) ?_
    rotate_left
    · (intro w hSw; (try dsimp only at hSw); go_simp; try (with_reducible rfl))
    try simp only [List.getElem_toArray, List.getElem_cons_succ, List.getElem_cons_zero, Act.put, List.setIfInBounds_toArray, List.set_cons_zero, List.set_cons_succ]
    refine' wpAnyH_take (i := 8) (oi := _) (v := _) rfl (by kernel_rfl) (by kernel_rfl) (by kernel_rfl) (fun _ _ _ h => h) (Or.inl ⟨by kernel_rfl, ?_⟩) (by assumption) ?_
    rotate_left
    · (intro w hSw; (try dsimp only at hSw); go_simp; try (with_reducible rfl))
    try simp only [List.getElem_toArray, List.getElem_cons_succ, List.getElem_cons_zero, Act.put, List.setIfInBounds_toArray, List.set_cons_zero, List.set_cons_succ]
    refine' wpAnyH_take (i := 9) (oi := _) (v := _) rfl (by kernel_rfl) (by kernel_rfl) (by kernel_rfl) (fun _ _ _ h => h) (Or.inl ⟨by kernel_rfl, ?_⟩) (by assumption) ?_
    rotate_left
    · (intro w hSw; (try dsimp only at hSw); go_simp; try (with_reducible rfl))
    try simp only [List.getElem_toArray, List.getElem_cons_succ, List.getElem_cons_zero, Act.put, List.setIfInBounds_toArray, List.set_cons_zero, List.set_cons_succ]
    refine wpAnyH_ready (rs := [10]) (by kernel_rfl) (by simp) ?_
    refine (AllReadyH.cons (o := _) rfl (fun K hK => ?_) AllReadyH.nil)
    go_simp
    obtain ⟨X52, hX52⟩ : ∃ X, V49.alloc (.cells #[.int .u64 0, .int .i64 0, .int .i64 0, .int .i64 0, .int .u64 0, .int .i64 0] 47) = X := ⟨_, rfl⟩
    have bX52 : Below V49.heap.size V49 X52 := by rw [← hX52]; exact ball _ _
    have r54 := hid (row_on r50.out bX52)
    have r55 := hid (row_on r51.out bX52)
    have DX52 := hid (btr BV49.out bX52)
    have zX52 : X52.heap[V49.heap.size]? = some (.cells #[.int .u64 0, .int .i64 0, .int .i64 0, .int .i64 0, .int .u64 0, .int .i64 0] 47 (0, 0)) := by rw [← hX52]; exact World.alloc_heap_new _ _
    have yg53 := BV49.out.size
    obtain ⟨g53, hg53⟩ : ∃ g, V49.heap.size = g := ⟨_, rfl⟩
    have n56 : g53 ≠ S := by have := row_lt r50.out; omega
    have n57 : g53 ≠ R := by have := row_lt r51.out; omega
    rw [hg53] at zX52 yg53
    have ZX52 := hid zX52
    rw [hX52, hg53]
    clear hX52 hg53 zX52 bX52
    refine hK.out _ _ ?_ (fun hHeld => ?_)
    · (try dsimp only); exact ⟨row_cell r54.out 4, row_cell r55.out 0, LK.out _ DX52.out⟩
    clear hK K
    try simp only [List.getElem_toArray, List.getElem_cons_succ, List.getElem_cons_zero, Act.put, List.setIfInBounds_toArray, List.set_cons_zero, List.set_cons_succ]
    refine wpAnyH_ready (rs := [11]) (by kernel_rfl) (by simp) ?_
    refine (AllReadyH.cons (o := _) rfl (fun K hK => ?_) AllReadyH.nil)
    refine step_store_row (by rfl) 47 (.tmp 5) (.tmp 15) (by rfl) g53 #[.int .u64 f.sq, .int .i64 f.kd, .int .i64 f.sd, .int .i64 f.pr, .int .u64 f.qt, .int .i64 f.ct] (by rfl) (by rfl) 47 _ ZX52.out infoD (by rfl) (by simp [Value.oneCell']) ?_
    obtain ⟨Y58, hY58⟩ : ∃ Y, X52.setRow g53 #[.int .u64 f.sq, .int .i64 f.kd, .int .i64 f.sd, .int .i64 f.pr, .int .u64 f.qt, .int .i64 f.ct] = Y := ⟨_, rfl⟩
    have KY58 := hid (show Kp (fun j => j = g53) X52 Y58 from by rw [← hY58]; exact setRow_kp _ _ _)
    have AY58 := hid (show Y58.heap[g53]? = some (.cells #[.int .u64 f.sq, .int .i64 f.kd, .int .i64 f.sd, .int .i64 f.pr, .int .u64 f.qt, .int .i64 f.ct] 47 (0, 0)) from by rw [← hY58]; exact setRow_heap X52 g53 _ _ 47 (0, 0) ZX52.out)
    have DY58 := hid (show Below W.heap.size W Y58 from by rw [← hY58]; exact setRow_below DX52.out yg53)
    have r59 := hid (KY58.out.row r54.out (fun e => n56.symm e))
    have r60 := hid (KY58.out.row r55.out (fun e => n57.symm e))
    rw [hY58]
    refine hK.out _ _ ?_ (fun hHeld => ?_)
    · (try dsimp only); exact ⟨row_cell r59.out 4, row_cell r60.out 0, LK.out _ DY58.out⟩
    clear hK K hY58
    try simp only [List.getElem_toArray, List.getElem_cons_succ, List.getElem_cons_zero, Act.put, List.setIfInBounds_toArray, List.set_cons_zero, List.set_cons_succ]
    refine' wpAnyH_take (i := 12) (oi := _) (v := _) rfl (by kernel_rfl) (by kernel_rfl) (by kernel_rfl) (fun _ _ _ h => h) (Or.inl ⟨by kernel_rfl, ?_⟩) (by assumption) ?_
    rotate_left
    · (intro w hSw; (try dsimp only at hSw); go_simp; try (with_reducible rfl))
    try simp only [List.getElem_toArray, List.getElem_cons_succ, List.getElem_cons_zero, Act.put, List.setIfInBounds_toArray, List.set_cons_zero, List.set_cons_succ]
    refine wpAnyH_done (by kernel_rfl) ?_ _
    exact ⟨g53, by kernel_rfl, DY58⟩
  · rintro P V BVH
    have BV := BVH.out
    try simp only [List.getElem_toArray, List.getElem_cons_succ, List.getElem_cons_zero, Act.put, List.setIfInBounds_toArray, List.set_cons_zero, List.set_cons_succ]
    obtain ⟨j0, j1, j2, j3, j4, j5⟩ := row6 (row_on HD.out BV)
    have hbx := HBX.out
    subst hbx
    go_upto_region 4 with (go_at_call 39; with_reducible refine (CB.out _).mono ?_; rintro e V1 ⟨rfl, hb⟩; have BV1 := hid (btr BV hb); clear hb)
    clear j0 j1 j2 j3 j4 j5 LK
    have HS1 := hid (HS.out.on BV1.out)
    have HD1 := hid (row_on HD.out BV1.out)
    obtain ⟨k0, k1, k2, k3, k4, k5⟩ := row12 HS1.out.row
    obtain ⟨j0, j1, j2, j3, j4, j5⟩ := row6 HD1.out
    have g1 : decide (d.sq ≤ sq) = false := by simp; omega
    have g2 : ¬ d.sq ≤ sq := by omega
    go_quiet (fail)
    go_upto_region 6 with fail
    obtain ⟨V2, hV2⟩ : ∃ V2, V1.drewN nq = V2 := ⟨_, rfl⟩
    have BV2 := hid (show Below V1.heap.size V1 V2 from by rw [← hV2]; exact bdrew _ _)
    rw [hV2]
    clear hV2 k0 k1 k2 k3 k4 k5 j0 j1 j2 j3 j4 j5
    have HS2 := hid (HS1.out.on BV2.out)
    have HD2 := hid (row_on HD1.out BV2.out)
    have k5 := row_cell HS2.out.row 5
    have f5 := row_frz HS2.out.row 5
    obtain ⟨j0, j1, j2, j3, j4, j5⟩ := row6 HD2.out
    go_region_law fail
    all_goals
      clear k5 f5 j0 j1 j2 j3 j4 j5
      obtain ⟨V3, hV3⟩ : ∃ V3, (V2.setCell ⟨S, 5, none⟩ (.int .u64 G)).drew = V3 := ⟨_, rfl⟩
      have hs2 := HS2.out
      have K3 := hid (show Kp (fun g => g = S) V2 V3 from by rw [← hV3]; exact (Kp.set _ _ _ _).trans (Kp.of (fun _ => False) (bdrew1 _)) (fun _ _ h => h.elim))
      have HS3 := hid (show Sb V3 S M nm sq _ G p1 c1 l1 p2 c2 l2 L la from ⟨by rw [← hV3]; exact row_on (set_row _ hs2.row) (bdrew1 _), hs2.o1.kept K3.out (fun g hg e => by obtain ⟨cu, hc⟩ := hs2.o1.ty hg; exact row_ne hc hs2.row (by decide) e), hs2.o2.kept K3.out (fun g hg e => by obtain ⟨cu, hc⟩ := hs2.o2.ty hg; exact row_ne hc hs2.row (by decide) e), hs2.k1, hs2.k2, hs2.hm.kept K3.out (fun e => map_ne hs2.hm hs2.row e), hs2.sq, HG.out⟩)
      have HD3 := hid (K3.out.row HD2.out (fun e => row_ne HD2.out hs2.row (by decide) e))
      have KV3 := hid (show Kp (fun g => g = S) w V3 from (Kp.of _ (btr (btr HB.out BV1.out) BV2.out)).trans K3.out (fun _ _ h => h))
      rw [hV3]
      clear hV3 hs2 K3
      obtain ⟨k0, k1, k2, k3, k4, k5⟩ := row12 HS3.out.row
      obtain ⟨j0, j1, j2, j3, j4, j5⟩ := row6 HD3.out
      go_upto_region 7 with fail
      go_quiet (fail)
      obtain ⟨V4, hV4⟩ : ∃ V4, V3.drewN nq = V4 := ⟨_, rfl⟩
      have BV4 := hid (show Below V3.heap.size V3 V4 from by rw [← hV4]; exact bdrew _ _)
      rw [hV4]
      clear hV4 k0 k1 k2 k3 k4 k5 j0 j1 j2 j3 j4 j5
      have HS4 := hid (HS3.out.on BV4.out)
      have KV4 := hid (show Kp (fun g => g = S) w V4 from KV3.out.trans (Kp.of (fun _ => False) BV4.out) (fun _ _ h => h.elim))
      have HD4 := hid (row_on HD3.out BV4.out)
      obtain ⟨j0, j1, j2, j3, j4, j5⟩ := row6 HD4.out
      have CK := hid (do_any (s := ⟨sq, G, l1, l2, L, la⟩) ⟨HS4.out, HAP.out⟩ d HOK.out hq)
      go_upto_region 11 with (go_at_call 41; with_reducible refine (CK.out).mono ?_; rintro e V5 ⟨rfl, r1, f1, r2, f2, h1, h2, h3, h4⟩; have F1 := hid h1; have F2 := hid h2; have F3 := hid h3; have F4 := hid h4; clear h1 h2 h3 h4)
      have CU := hid (catch_any F1.out (HGU.out.doS HOK.out hq))
      clear CK j0 j1 j2 j3 j4 j5
      go_wp2_with (go_at_call 42; with_reducible refine (CU.out).mono ?_; rintro e V6 ⟨rfl, h1⟩; have G1 := hid h1; clear h1)
      go_ret
      obtain ⟨s1, g1, s2, g2, x1, x2, x3, x4⟩ := G1.out
      have z1 := KV4.out.size
      have z2 := F2.out.size
      refine ⟨rfl, s1, g1, s2, g2, x1, ?_, ?_, ?_⟩
      · refine ((KV4.out.mono (fun _ _ h => .inl h)).trans F2.out (fun _ _ h => h.elim .inl (fun h => .inr (.inr h)))).trans x2 (fun g hg h => ?_)
        rcases h with h | h | h | h
        · exact .inl h
        · exact .inr (.inl h)
        · rcases F3.out g h with h | h
          · exact .inr (.inr (.inl h))
          · omega
        · rcases F4.out g h with h | h
          · exact .inr (.inr (.inr h))
          · omega
      · intro g hg
        rcases x3 g hg with h | h
        · rcases F3.out g h with h | h
          · exact .inl h
          · exact .inr (by omega)
        · exact .inr (by omega)
      · intro g hg
        rcases x4 g hg with h | h
        · rcases F4.out g h with h | h
          · exact .inl h
          · exact .inr (by omega)
        · exact .inr (by omega)
theorem Bhd.same {w w' : World} {S M nm hold : Nat} {s : Ss} {p1 p2 : Option Addr} {c1 c2 : Nat} (h : Su w S M nm hold s p1 c1 p2 c2) (hb : Below w.heap.size w w') : Bhd w S M nm hold s p1 p2 w' :=
  ⟨p1, c1, p2, c2, h.on hb, Kp.of _ hb, Fr.refl _ _, Fr.refl _ _⟩
theorem take_any {w : World} {S M nm hold : Nat} {s : Ss} {p1 p2 : Option Addr} {c1 c2 : Nat} (h : Su w S M nm hold s p1 c1 p2 c2) (hg : Sg hold s) (d : Dm) (hq : 0 ≤ d.sq ∧ d.sq < 18446744073709551616) (hn : nm < maxLen) :
    Calls Try.prog 17 #[.pointer (some ⟨S, 0, none⟩), .agg #[.int .u64 d.sq, .int .i64 d.kd, .int .i64 d.sd, .int .i64 d.pr, .int .u64 d.qt, .int .i64 d.ct]] w fun e w' => e = .returned (.int .i64 (tkE s d)) ∧ ∃ nm', nm' ≤ nm + 1 ∧ Bhd w S M nm' hold (tkS hold s d) p1 p2 w' := by
  obtain ⟨sq, gr, l1, l2, L, la⟩ := s
  have hsb := h.sb
  dsimp only at hsb
  cases hok : dOk d with
  | false =>
    have e1 : tkE ⟨sq, gr, l1, l2, L, la⟩ d = 1 := by unfold tkE; rw [if_pos hok]
    have e2 : tkS hold ⟨sq, gr, l1, l2, L, la⟩ d = ⟨sq, gr, l1, l2, L, la⟩ := by unfold tkS; rw [if_pos hok]
    rw [e1, e2]
    refine (take_bad hsb d hok hq).mono ?_
    rintro e w' ⟨rfl, hb⟩
    exact ⟨rfl, nm, by omega, Bhd.same h hb⟩
  | true =>
    have hok' : ¬ dOk d = false := by simp [hok]
    by_cases hst : d.sq ≤ sq ∨ hasN L d.sq = true
    · have e1 : tkE ⟨sq, gr, l1, l2, L, la⟩ d = 180 := by unfold tkE; rw [if_neg hok', if_pos hst]
      have e2 : tkS hold ⟨sq, gr, l1, l2, L, la⟩ d = ⟨sq, gr, l1, l2, L, la⟩ := by unfold tkS; rw [if_neg hok', if_pos hst]
      rw [e1, e2]
      by_cases ho : d.sq ≤ sq
      · refine (take_old hsb d hok hq ho).mono ?_
        rintro e w' ⟨rfl, hb⟩
        exact ⟨rfl, nm, by omega, Bhd.same h hb⟩
      · refine (take_held hsb d hok hq (by omega) (hst.resolve_left ho)).mono ?_
        rintro e w' ⟨rfl, hb⟩
        exact ⟨rfl, nm, by omega, Bhd.same h hb⟩
    · have hlt : sq < d.sq := by have := fun h => hst (.inl h); omega
      have hx : hasN L d.sq = false := by cases hq : hasN L d.sq with | false => rfl | true => exact absurd (.inr hq) hst
      by_cases hnx : d.sq = sq + 1
      · have e1 : tkE ⟨sq, gr, l1, l2, L, la⟩ d = 0 := by unfold tkE; rw [if_neg hok', if_neg hst, if_pos hnx]
        have e2 : tkS hold ⟨sq, gr, l1, l2, L, la⟩ d = goS (doS ⟨sq, max gr d.sq, l1, l2, L, la⟩ d) := by unfold tkS; rw [if_neg hok', if_neg hst, if_pos hnx]
        rw [e1, e2]
        refine (take_nx hsb d hok hq h.ap hold rfl hg hx hnx).mono ?_
        rintro e w' ⟨rfl, hb⟩
        exact ⟨rfl, nm, by omega, hb⟩
      · have e1 : tkE ⟨sq, gr, l1, l2, L, la⟩ d = 181 := by unfold tkE; rw [if_neg hok', if_neg hst, if_neg hnx]
        rw [e1]
        by_cases hr : L.length < hold
        · have e2 : tkS hold ⟨sq, gr, l1, l2, L, la⟩ d = ⟨sq, max gr d.sq, l1, l2, L ++ [d], la⟩ := by unfold tkS; rw [if_neg hok', if_neg hst, if_neg hnx]; simp [hr]
          rw [e2]
          refine (take_gap hsb d hok hq hx hlt (by omega) (by omega) hn).mono ?_
          rintro e w' ⟨rfl, h1, h2⟩
          exact ⟨rfl, nm + 1, by omega, p1, c1, p2, c2, ⟨h1, h.ap⟩, h2.mono (fun _ _ h => h.elim .inl (fun h => .inr (.inl h))), Fr.refl _ _, Fr.refl _ _⟩
        · have e2 : tkS hold ⟨sq, gr, l1, l2, L, la⟩ d = ⟨sq, max gr d.sq, l1, l2, L, la⟩ := by unfold tkS; rw [if_neg hok', if_neg hst, if_neg hnx]; simp [hr]
          rw [e2]
          refine (take_full hsb d hok hq hx hlt (by omega) (by omega)).mono ?_
          rintro e w' ⟨rfl, h1, h2⟩
          exact ⟨rfl, nm, by omega, p1, c1, p2, c2, ⟨h1, h.ap⟩, h2.mono (fun _ _ h => .inl h), Fr.refl _ _, Fr.refl _ _⟩
end Go.Proofs.Ytojmcfkbekodpaa.Fd
