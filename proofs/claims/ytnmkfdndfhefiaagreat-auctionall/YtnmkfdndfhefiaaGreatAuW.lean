/-
  All that can be traded is traded.
-/
import Derived.Test.YtnmkfdndfhefiaaGreatAuV
namespace Go.Proofs.YtnmkfdndfhefiaaGreat
open Go.RowKit Go.Deep Go.Shelf
set_option linter.unusedVariables false
set_option linter.unusedSimpArgs false
set_option maxHeartbeats 8000000
set_option maxRecDepth 100000
attribute [local go_sem ↓] Go.wp_at_zero Go.wp_at_succ
theorem stepStoreRow {P : Program} {w : World} {ops : Array Oper} {o : Oper} {a : Act} {K : Act → World → Prop} {Q : Exit → Act → World → Prop} {E : Prop} (hgd : o.guard = none) (ty : TypeId) (x y : Operand) (ho : o.op = .store ty x y)
    (g : Nat) (cells : Array Value) (hx : a.eval x = .pointer (some ⟨g, 0, none⟩)) (hy : a.eval y = .agg cells)
    (t : TypeId) (old : Array Value) (hg : w.heap[g]? = some (.cells old t (0, 0))) (hi : (P.info? ty).map (·.size) = some cells.size)
    (hold : old.size = cells.size) (h1 : cells.all (·.oneCell') = true)
    (h : K (a.put o.dst undef) (w.setRow g cells)) : if Region.wanted o (yielded ops a.tmps) = true then Oper.wp P o a w K Q else E := by
  have hw : Region.wanted o (yielded ops a.tmps) = true := by simp [Region.wanted, hgd]
  rw [if_pos hw]
  exact wp_store_row ty x y ho g cells hx hy t old hg hi hold h1 h
theorem headD_mem {l : List Qt} (h : 0 < l.length) : l.headD q0 ∈ l := by rw [← headD_at h]; exact List.getElem_mem h
theorem lastD_mem {l : List Qt} (h : 0 < l.length) : l.getLastD q0 ∈ l := by rw [← lastD_at h]; exact List.getElem_mem (by omega)
/-- the one that is chosen is one of them, with the rule. -/
theorem dcd_mem {r : Int} {l : List Qt} (h : 0 < l.length) : ∃ z ∈ l, ∃ k, dcd r l = { z with ru := k } := by
  have h2 : 0 < (bst (fun z => z.su) l).length := bst_pos h
  have h3 : 0 < (bst (fun z => max (z.pr - r) (r - z.pr)) (bst (fun z => z.su) l)).length := bst_pos h2
  unfold dcd
  split
  · exact ⟨_, headD_mem h, _, rfl⟩
  split
  · exact ⟨_, bst_mem (headD_mem h2), _, rfl⟩
  split
  · exact ⟨_, bst_mem (lastD_mem h2), _, rfl⟩
  split
  · exact ⟨_, bst_mem (headD_mem h2), _, rfl⟩
  · exact ⟨_, bst_mem (bst_mem (headD_mem h3)), _, rfl⟩
/-- a quote is what its price comes to. -/
theorem quo_at {r : Int} {b s : List It} {q : Qt} (h : quo r b s = some q) : ∃ p ∈ pcs r b s, ∃ k, q = { qAt p (wd p b) (wd p s) with ru := k } ∧ qAt p (wd p b) (wd p s) ∈ mst r b s ∧ q.vo ≠ 0 := by
  have hm : 0 < (mst r b s).length := bst_pos (by rw [cds_len]; exact pcs_pos _ _ _)
  unfold quo at h
  split at h
  · cases h
  · rename_i hne
    injection h with h
    obtain ⟨z, hz, k, e⟩ := dcd_mem (r := r) hm
    obtain ⟨p, hp, rfl⟩ := List.mem_map.1 (bst_mem hz)
    refine ⟨p, hp, k, by rw [← h, e], hz, ?_⟩
    rw [← h, e]
    -- all of the most have one volume
    have e1 : ∀ y ∈ mst r b s, y.vo = (mn (fun z => -z.vo) (cds r b s) (cds r b s).length).vo := fun y hy => by
      have := (List.mem_filter.1 hy).2
      simp only [decide_eq_true_eq] at this
      omega
    have e2 := e1 _ hz
    have e3 := e1 _ (headD_mem hm)
    show (qAt p (wd p b) (wd p s)).vo ≠ 0
    rw [e2, ← e3]
    exact hne
theorem qAt_vo {p b s : Int} : (qAt p b s).vo = min b s := by unfold qAt; split; show s = _; omega; split; show b = _; omega; show b = _; omega
theorem tot_take_le {s : Int} {l : List It} (h : ∀ x ∈ l, Ik s x) (k : Nat) : tot (l.take k) ≤ tot l := by
  have e : tot l = tot (l.take k) + tot (l.drop k) := by rw [← tot_app, List.take_append_drop]
  have := tot_nonneg (s := s) (l := l.drop k) (fun x hx => h x (List.mem_of_mem_drop hx))
  omega
theorem quo_vg {r : Int} {b s : List It} {q : Qt} (hb : Sd 1 b) (hs : Sd 2 s) (h : quo r b s = some q) : Vg q.vo b s := by
  obtain ⟨p, hp, k, rfl, _⟩ := quo_at h
  have e : ({ qAt p (wd p b) (wd p s) with ru := k } : Qt).vo = min (wd p b) (wd p s) := qAt_vo
  rw [e]
  have a1 := tot_take_le hb.ok (wl p b)
  have a2 := tot_take_le hs.ok (wl p s)
  have a3 := tot_nonneg (s := 1) (l := b.take (wl p b)) (fun x hx => hb.ok x (List.mem_of_mem_take hx))
  have a4 := tot_nonneg (s := 2) (l := s.take (wl p s)) (fun x hx => hs.ok x (List.mem_of_mem_take hx))
  refine ⟨by unfold wd; omega, by unfold wd; omega, by unfold wd; omega, ?_⟩
  by_cases hc : wd p b ≤ wd p s
  · exact .inl ⟨wl p b, by rw [Int.min_eq_left hc]; rfl⟩
  · exact .inr ⟨wl p s, by rw [Int.min_eq_right (by omega)]; rfl⟩
theorem uncross_some (B : Nat) (r m : Int) (p1 : Option Addr) (c1 : Nat) (b : List It) (p2 : Option Addr) (c2 : Nat) (s : List It) (z : Qt) (w : World) (h : Cl w B r m p1 c1 b p2 c2 s) (hq : quo r b s = some z) :
    Calls Tryz.prog 19 #[.pointer (some ⟨B, 0, none⟩)] w fun e w' => ∃ pf cf, e = .returned (.tuple #[.slice pf (trd z.pr (b.length + s.length) z.vo b s).1.length cf, .agg #[.int .i64 z.pr, .int .u64 z.vo, .int .u64 z.su, .int .i64 z.sd, .int .i64 z.ru], .bool true]) ∧ w'.ownsRow w.heap.size 67 4 (.slice pf (trd z.pr (b.length + s.length) z.vo b s).1.length cf) (trd z.pr (b.length + s.length) z.vo b s).1.length (frs (trd z.pr (b.length + s.length) z.vo b s).1) ∧ Cl w' B r m p1 c1 (trd z.pr (b.length + s.length) z.vo b s).2.1 p2 c2 (trd z.pr (b.length + s.length) z.vo b s).2.2 ∧ Kp (fun g => g = B ∨ OfP p1 g ∨ OfP p2 g) w w' := by
  have hvg := quo_vg h.s1 h.s2 hq
  obtain ⟨R, hR⟩ : ∃ R, w.heap.size = R := ⟨_, rfl⟩
  obtain ⟨W, hW⟩ : ∃ W, w.alloc (.cells #[.int .i64 0, .int .u64 0, .int .u64 0, .int .i64 0, .int .i64 0] 57) = W := ⟨_, rfl⟩
  have HBW := hid (show Below w.heap.size w W from by rw [← hW]; exact ball _ _)
  have HZ := hid (show W.heap[R]? = some (.cells #[.int .i64 0, .int .u64 0, .int .u64 0, .int .i64 0, .int .i64 0] 57 (0, 0)) from by rw [← hW, ← hR]; exact World.alloc_heap_new _ _)
  have CQ := hid (quote_any B r m p1 c1 b p2 c2 s W (h.on HBW.out))
  rw [hq] at CQ
  change Hid (Calls Tryz.prog 17 #[.pointer (some ⟨B, 0, none⟩)] W fun e w' => e = .returned (.tuple #[.agg #[.int .i64 z.pr, .int .u64 z.vo, .int .u64 z.su, .int .i64 z.sd, .int .i64 z.ru], .bool true]) ∧ Below W.heap.size W w') at CQ
  have CT := hid (fun (U : World) (hU : Cl U B r m p1 c1 b p2 c2 s) => traded_any B r m p1 c1 b p2 c2 s z U hU hvg)
  obtain ⟨TR, hTR⟩ : ∃ T, trd z.pr (b.length + s.length) z.vo b s = T := ⟨_, rfl⟩
  rw [hTR] at CT ⊢
  obtain ⟨nf, hnf⟩ : ∃ n, TR.1.length = n := ⟨_, rfl⟩
  rw [hnf] at CT ⊢
  have HC := hid h
  have HBT := hid (show ∀ g, OfP p1 g ∨ OfP p2 g → g < w.heap.size from fun g hg => hg.elim (fun e => by obtain ⟨cu, hc⟩ := h.l1.ty e; exact row_lt hc) (fun e => by obtain ⟨cu, hc⟩ := h.l2.ty e; exact row_lt hc))
  have sB := row_lt h.row
  have HW := hid hW
  have HRR := hid hR
  clear h hq hvg hW hR hTR hnf
  go_enter Tryz.func19, Tryz.ntmps19
  go_upto_region 1 with fail
  rw [HW.out, HRR.out]
  go_upto_region 4 with (go_at_call 17; with_reducible refine (CQ.out).mono ?_; rintro e v1 ⟨rfl, hb⟩; have V1 := hid hb; clear hb)
  obtain ⟨X, hX⟩ : ∃ X, v1.alloc (.cells #[.int .i64 z.pr, .int .u64 z.vo, .int .u64 z.su, .int .i64 z.sd, .int .i64 z.ru] 57) = X := ⟨_, rfl⟩
  obtain ⟨α, hα⟩ : ∃ g, v1.heap.size = g := ⟨_, rfl⟩
  have BX := hid (show Below W.heap.size W X from by rw [← hX]; exact btr V1.out (ball _ _))
  have HA := hid (show X.heap[α]? = some (.cells #[.int .i64 z.pr, .int .u64 z.vo, .int .u64 z.su, .int .i64 z.sd, .int .i64 z.ru] 57 (0, 0)) from by rw [← hX, ← hα]; exact World.alloc_heap_new _ _)
  have HAR := hid (show R < α from by rw [← hα]; exact row_lt (row_on HZ.out V1.out))
  rw [hX, hα]
  clear hX hα
  obtain ⟨Y0, hY0⟩ : ∃ U, X.drew = U := ⟨_, rfl⟩
  have BY := hid (show Below X.heap.size X Y0 from by rw [← hY0]; exact bdrew1 _)
  have HAY := hid (row_on HA.out BY.out)
  have HZY := hid (row_on (row_on HZ.out BX.out) BY.out)
  have HBY := hid (btr (btr HBW.out BX.out) BY.out)
  have HCY := hid (HC.out.on HBY.out)
  have HS := hid (show ∀ U : World, U.heap[α]? = Y0.heap[α]? → U.cell? ⟨α, 0, none⟩ = some (.int .i64 z.pr) ∧ U.cell? ⟨α, 1, none⟩ = some (.int .u64 z.vo) ∧ U.cell? ⟨α, 2, none⟩ = some (.int .u64 z.su) ∧ U.cell? ⟨α, 3, none⟩ = some (.int .i64 z.sd) ∧ U.cell? ⟨α, 4, none⟩ = some (.int .i64 z.ru) from fun U e => row5 (e.trans HAY.out))
  refine wp_region_held_drew (S := (fun U => U.cell? ⟨α, 0, none⟩ = some (.int .i64 z.pr) ∧ U.cell? ⟨α, 1, none⟩ = some (.int .u64 z.vo) ∧ U.cell? ⟨α, 2, none⟩ = some (.int .u64 z.su) ∧ U.cell? ⟨α, 3, none⟩ = some (.int .i64 z.sd) ∧ U.cell? ⟨α, 4, none⟩ = some (.int .i64 z.ru))) (by kernel_rfl) ?_ (fun hHeld => ?_)
  · (try dsimp only); rw [hY0]; exact HS.out Y0 rfl
  rw [hY0] at hHeld ⊢
  clear hY0
  refine' wpAnyH_take (i := 0) (oi := _) (v := _) rfl (by kernel_rfl) (by kernel_rfl) (by kernel_rfl) (fun _ _ _ h => h) (Or.inl ⟨by kernel_rfl, ?_⟩) (by assumption) ?_
  rotate_left
  · (intro w hSw; (try dsimp only at hSw); go_simp; try (with_reducible rfl))
  try simp only [List.getElem_toArray, List.getElem_cons_succ, List.getElem_cons_zero, Act.put, List.setIfInBounds_toArray, List.set_cons_zero, List.set_cons_succ]
  refine' wpAnyH_take (i := 1) (oi := _) (v := _) rfl (by kernel_rfl) (by kernel_rfl) (by kernel_rfl) (fun _ _ _ h => h) (Or.inl ⟨by kernel_rfl, ?_⟩) (by assumption) ?_
  rotate_left
  · (intro w hSw; (try dsimp only at hSw); go_simp; try (with_reducible rfl))
  try simp only [List.getElem_toArray, List.getElem_cons_succ, List.getElem_cons_zero, Act.put, List.setIfInBounds_toArray, List.set_cons_zero, List.set_cons_succ]
  refine' wpAnyH_take (i := 3) (oi := _) (v := _) rfl (by kernel_rfl) (by kernel_rfl) (by kernel_rfl) (fun _ _ _ h => h) (Or.inl ⟨by kernel_rfl, ?_⟩) (by assumption) ?_
  rotate_left
  · (intro w hSw; (try dsimp only at hSw); go_simp; try (with_reducible rfl))
  try simp only [List.getElem_toArray, List.getElem_cons_succ, List.getElem_cons_zero, Act.put, List.setIfInBounds_toArray, List.set_cons_zero, List.set_cons_succ]
  refine wpAnyH_ready (rs := [2]) (by kernel_rfl) (by simp) ?_
  refine AllReadyH.cons (o := _) rfl (fun KK hK => ?_) AllReadyH.nil
  go_simp
  go_at_call 42
  refine (CT.out Y0 HCY.out).mono ?_
  rintro e v2 ⟨pf, cf, rfl, h1, h2, h3⟩
  have H1 := hid h1
  have H2 := hid h2
  have H3 := hid h3
  have hRa := HAR.out
  have hRw := HRR.out
  have eA := hid (show v2.heap[α]? = Y0.heap[α]? from h3.obj α (row_lt HAY.out) (fun e => e.elim (fun e => by omega) (fun e => by have := HBT.out α e; omega)))
  have HZV := hid (h3.row HZY.out (fun e => e.elim (fun e => by omega) (fun e => by have := HBT.out R e; omega)))
  clear h1 h2 h3
  (try go_simp)
  refine hK.out _ _ ?_ (fun hHeld => ?_)
  · (try dsimp only); exact HS.out v2 eA.out
  clear hK
  try simp only [List.getElem_toArray, List.getElem_cons_succ, List.getElem_cons_zero, Act.put, List.setIfInBounds_toArray, List.set_cons_zero, List.set_cons_succ]
  refine' wpAnyH_take (i := 4) (oi := _) (v := _) rfl (by kernel_rfl) (by kernel_rfl) (by kernel_rfl) (fun _ _ _ h => h) (Or.inl ⟨by kernel_rfl, ?_⟩) (by assumption) ?_
  rotate_left
  · (intro w hSw; (try dsimp only at hSw); go_simp; try (with_reducible rfl))
  try simp only [List.getElem_toArray, List.getElem_cons_succ, List.getElem_cons_zero, Act.put, List.setIfInBounds_toArray, List.set_cons_zero, List.set_cons_succ]
  have AI := hid (show (Tryz.prog.info? 57).map (·.size) = some (#[.int .i64 z.pr, .int .u64 z.vo, .int .u64 z.su, .int .i64 z.sd, .int .i64 z.ru] : Array Value).size from infoQ)
  have AS := hid (show (#[.int .i64 0, .int .u64 0, .int .u64 0, .int .i64 0, .int .i64 0] : Array Value).size = (#[.int .i64 z.pr, .int .u64 z.vo, .int .u64 z.su, .int .i64 z.sd, .int .i64 z.ru] : Array Value).size from rfl)
  have AA := hid (show (#[.int .i64 z.pr, .int .u64 z.vo, .int .u64 z.su, .int .i64 z.sd, .int .i64 z.ru] : Array Value).all (·.oneCell') = true from by simp [Value.oneCell'])
  refine wpAnyH_ready (rs := [5]) (by kernel_rfl) (by simp) ?_
  refine AllReadyH.cons (o := _) rfl (fun KK hK => ?_) AllReadyH.nil
  refine stepStoreRow (by rfl) 57 (.tmp 3) (.tmp 18) (by rfl) R #[.int .i64 z.pr, .int .u64 z.vo, .int .u64 z.su, .int .i64 z.sd, .int .i64 z.ru] (by rfl) (by rfl) 57 _ HZV.out AI.out AS.out AA.out ?_
  refine hK.out _ _ ?_ (fun hHeld => ?_)
  · (try dsimp only); exact HS.out _ ((setRow_other v2 R α _ (by omega)).trans eA.out)
  clear hK
  try simp only [List.getElem_toArray, List.getElem_cons_succ, List.getElem_cons_zero, Act.put, List.setIfInBounds_toArray, List.set_cons_zero, List.set_cons_succ]
  refine' wpAnyH_take (i := 6) (oi := _) (v := _) rfl (by kernel_rfl) (by kernel_rfl) (by kernel_rfl) (fun _ _ _ h => h) (Or.inl ⟨by kernel_rfl, ?_⟩) (by assumption) ?_
  rotate_left
  · (intro w hSw; (try dsimp only at hSw); go_simp; try (with_reducible rfl))
  try simp only [List.getElem_toArray, List.getElem_cons_succ, List.getElem_cons_zero, Act.put, List.setIfInBounds_toArray, List.set_cons_zero, List.set_cons_succ]
  refine wpAnyH_done (by kernel_rfl) ?_ _
  clear hHeld
  go_wp2
  refine bodyPost_ret (res_tct (fn := Tryz.f19) Tryz.results19 _ _ R 57 #[.int .i64 z.pr, .int .u64 z.vo, .int .u64 z.su, .int .i64 z.sd, .int .i64 z.ru] (0, 0) _ (.slice pf nf cf) (.bool true) (by rfl) (by rfl) (by rfl) (setRow_heap _ _ _ _ 57 (0, 0) HZV.out) Tryz.underlying57 rfl infoQ) rfl ⟨pf, cf, rfl, ?_, ?_, ?_⟩
  · refine own_base (own_same H1.out (fun k hk => ?_)) HBY.out.size
    obtain ⟨cu, hc⟩ := own_ty H1.out hk
    exact setRow_other v2 R k _ (row_ne hc HZV.out (by decide))
  · have hc := H2.out
    have kq := setRow_kp v2 R #[.int .i64 z.pr, .int .u64 z.vo, .int .u64 z.su, .int .i64 z.sd, .int .i64 z.ru]
    exact ⟨kq.row hc.row (row_ne hc.row HZV.out (by decide)), hc.l1.kept kq (fun g hg e => by obtain ⟨cu, hcu⟩ := hc.l1.ty hg; exact row_ne hcu HZV.out (by decide) e), hc.l2.kept kq (fun g hg e => by obtain ⟨cu, hcu⟩ := hc.l2.ty hg; exact row_ne hcu HZV.out (by decide) e), hc.s1, hc.s2, hc.ap, hc.r0, hc.r1, hc.m0, hc.m1, hc.mb⟩
  · exact ((Kp.of (fun g => g = B ∨ OfP p1 g ∨ OfP p2 g) HBY.out).trans H3.out (fun _ _ h => h)).trans (setRow_kp v2 R #[.int .i64 z.pr, .int .u64 z.vo, .int .u64 z.su, .int .i64 z.sd, .int .i64 z.ru]) (fun g hg e => absurd hg (by omega))
end Go.Proofs.YtnmkfdndfhefiaaGreat
