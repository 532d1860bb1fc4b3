/-
  inPriority, of whatever orders. Written by mkRcC.py.
-/
import Derived.Test.YtjpkodllemoniaaDoorRcA
namespace Go.Proofs.YtjpkodllemoniaaDoor.Sr
open Go.RowKit Go.Deep
set_option linter.unusedVariables false
set_option linter.unusedSimpArgs false
set_option maxHeartbeats 8000000
set_option maxRecDepth 100000
attribute [local go_sem ↓] Go.wp_at_zero Go.wp_at_succ
theorem bdw (w : World) : Below w.heap.size w w.drew := by
  refine (Below.refl _ w).drew
/-- a price is better for a side. -/
def bt (s p q : Int) : Bool := if s = 1 then decide (q < p) else decide (p < q)
theorem bt_any (s p q : Int) (w : World) : Calls Tryd.prog 45 #[.int .i64 s, .int .i64 p, .int .i64 q] w fun e w' => e = .returned (.bool (bt s p q)) ∧ w' = w := by
  by_cases h : s = 1
  · subst h
    go_enter Tryd.func45, Tryd.ntmps45
    go_wp2
    go_ret
    exact ⟨by simp [bt], rfl⟩
  · have h1 : (s == 1) = false := by simpa using h
    go_enter Tryd.func45, Tryd.ntmps45
    go_wp2
    go_ret
    exact ⟨by simp [bt, h], rfl⟩
theorem inprio1_any (S : Nat) (s : Int) (x y : Rt) (w : World) (hS : S < w.heap.size) (hc : w.cell? ⟨S, 0, none⟩ = some (.int .i64 s)) :
    Calls Tryd.prog 44 #[.agg (rtr x), .agg (rtr y), .pointer (some ⟨S, 0, none⟩)] w fun e w' => (∃ r : Int, e = .returned (.int .i64 r) ∧ decide (r < 0) = bt s x.pr y.pr) ∧ Below w.heap.size w w' := by
  have C1 := hid (fun U => bt_any s x.pr y.pr U)
  have C2 := hid (fun U => bt_any s y.pr x.pr U)
  obtain ⟨u, hu⟩ : ∃ v, bt s x.pr y.pr = v := ⟨_, rfl⟩
  rw [hu] at C1
  rw [hu]
  obtain ⟨v, hv⟩ : ∃ v, bt s y.pr x.pr = v := ⟨_, rfl⟩
  rw [hv] at C2
  clear hv hu
  obtain ⟨id, mb, ty, pr, vi, hi, pk⟩ := x
  obtain ⟨id', mb', ty', pr', vi', hi', pk'⟩ := y
  unfold rtr
  simp only at *
  obtain ⟨V, hV⟩ : ∃ V, w.alloc (.cells #[.int .u64 id, .int .u32 mb, .int .i64 ty, .int .i64 pr, .int .u64 vi, .int .u64 hi, .int .u64 pk] 46) = V := ⟨_, rfl⟩
  have hBV := hid (show Below w.heap.size w V from by rw [← hV]; exact ball _ _)
  have hhV : V.heap[w.heap.size]? = some (.cells #[.int .u64 id, .int .u32 mb, .int .i64 ty, .int .i64 pr, .int .u64 vi, .int .u64 hi, .int .u64 pk] 46 (0, 0)) := by rw [← hV]; exact World.alloc_heap_new _ _
  have hVs : w.heap.size < V.heap.size := by rw [← hV]; simp
  obtain ⟨W, hW⟩ : ∃ W, V.alloc (.cells #[.int .u64 id', .int .u32 mb', .int .i64 ty', .int .i64 pr', .int .u64 vi', .int .u64 hi', .int .u64 pk'] 46) = W := ⟨_, rfl⟩
  have hBW := hid (show Below V.heap.size V W from by rw [← hW]; exact ball _ _)
  have hhW : W.heap[V.heap.size]? = some (.cells #[.int .u64 id', .int .u32 mb', .int .i64 ty', .int .i64 pr', .int .u64 vi', .int .u64 hi', .int .u64 pk'] 46 (0, 0)) := by rw [← hW]; exact World.alloc_heap_new _ _
  have c3 : W.cell? ⟨w.heap.size, 3, none⟩ = some (.int .i64 pr) := (hBW.out.cell (p := ⟨w.heap.size, 3, none⟩) hVs).trans (row_cell hhV 3)
  have c3' : W.cell? ⟨V.heap.size, 3, none⟩ = some (.int .i64 pr') := row_cell hhW 3
  have hc2 : W.cell? ⟨S, 0, none⟩ = some (.int .i64 s) := ((btr hBV.out hBW.out).cell (p := ⟨S, 0, none⟩) hS).trans hc
  have HB := hid (btr hBV.out hBW.out)
  go_enter Tryd.func44, Tryd.ntmps44
  go_upto_region 1 with fail
  clear hhV hhW hV hW hc hBV hBW
  cases u with
  | true =>
    go_wp2_with (first | (go_at_call 45; with_reducible refine (C1.out _).mono ?_; rintro e w1 ⟨rfl, rfl⟩) | (go_at_call 45; with_reducible refine (C2.out _).mono ?_; rintro e w1 ⟨rfl, rfl⟩))
    go_ret
    exact ⟨⟨-1, rfl, by decide⟩, HB.out⟩
  | false =>
    cases v with
    | true =>
      go_wp2_with (first | (go_at_call 45; with_reducible refine (C1.out _).mono ?_; rintro e w1 ⟨rfl, rfl⟩) | (go_at_call 45; with_reducible refine (C2.out _).mono ?_; rintro e w1 ⟨rfl, rfl⟩))
      go_ret
      exact ⟨⟨1, rfl, by decide⟩, HB.out⟩
    | false =>
      go_wp2_with (first | (go_at_call 45; with_reducible refine (C1.out _).mono ?_; rintro e w1 ⟨rfl, rfl⟩) | (go_at_call 45; with_reducible refine (C2.out _).mono ?_; rintro e w1 ⟨rfl, rfl⟩))
      go_ret
      exact ⟨⟨0, rfl, by decide⟩, HB.out⟩
/-- a side's orders stand so. -/
def SrR (s : Int) (l : List Rt) : Prop := ∀ i, i < l.length - 1 → (h : i + 1 < l.length) → bt s l[i + 1].pr l[i].pr = false
instance (s : Int) (l : List Rt) : Decidable (SrR s l) := by unfold SrR; infer_instance
theorem issorted_any (S : Nat) (s : Int) (p : Option Addr) (c : Nat) (l : List Rt) (w : World) (hz : Rz w p l) (hn : l.length ≤ 4096) (hS : S < w.heap.size) (hc : w.cell? ⟨S, 0, none⟩ = some (.int .i64 s)) :
    Calls Tryd.prog 43 #[.slice p l.length c, .func (.func 44) #[] #[.pointer (some ⟨S, 0, none⟩)]] w fun e w' => e = .returned (.bool (decide (SrR s l))) ∧ Below w.heap.size w w' := by
  have HZ := hid hz
  have HC := hid hc
  obtain ⟨B, hB⟩ : ∃ B, decide (SrR s l) = B := ⟨_, rfl⟩
  have HBB := hid hB
  rw [hB]
  obtain ⟨n, hnl⟩ : ∃ n, l.length = n := ⟨_, rfl⟩
  rw [hnl] at hn ⊢
  have HNL := hid hnl
  clear hz hc hB hnl
  have wn : IntKind.i64.wrap ((n : Int) - 1) = (n : Int) - 1 := by rw [IntKind.wrap_i64]; omega
  go_enter Tryd.func43, Tryd.ntmps43
  go_upto_region 2 with fail
  go_loopw [5, 9] (fun iv jv wr => ∃ (m : Int), iv = .int .i64 m ∧ -1 ≤ m ∧ m < n ∧ Hid (∀ i (h : i + 1 < l.length), m ≤ i → bt s l[i + 1].pr l[i].pr = false) ∧ Hid (Below w.heap.size w wr)) (fun iv _ _ => (intOf iv).toNat)
  case atStart => exact ⟨(n : Int) - 1, rfl, by omega, by omega, hid (fun i h1 h2 => absurd h1 (by have := HNL.out; omega)), hid (Below.refl _ _)⟩
  case round =>
    obtain ⟨m, rfl, m0, m1, HI, HB⟩ := hrel
    by_cases hm : 0 < m
    · obtain ⟨i, rfl⟩ : ∃ i : Nat, m = i := ⟨m.toNat, by omega⟩
      obtain ⟨k, hk⟩ : ∃ k, k + 1 = i := ⟨i - 1, by omega⟩
      have wm : IntKind.i64.wrap ((i : Int) - 1) = (k : Int) := by rw [IntKind.wrap_i64]; omega
      have ii0 : (0 : Int) ≤ (i : Int) := by omega
      have kk0 : (0 : Int) ≤ (k : Int) := by omega
      have kk : (k : Int) < (n : Int) := by omega
      have hil : i < l.length := by rw [HNL.out]; omega
      have hkl : k < l.length := by rw [HNL.out]; omega
      have HT := hid (show bt s (l[i]).pr (l[k]).pr = false → ∀ j (h : j + 1 < l.length), (k : Int) ≤ j → bt s l[j + 1].pr l[j].pr = false from fun e j hj hkj => by
        by_cases c : j = k
        · subst c; subst hk; exact e
        · exact HI.out j hj (by omega))
      have HF := hid (show bt s (l[i]).pr (l[k]).pr = true → B = false from fun e => by
        rw [← HBB.out]
        exact decide_eq_false (fun hs => by subst hk; have := hs k (by omega) hil; rw [this] at e; cases e))
      obtain ⟨g, hpg, hgl, -⟩ := HZ.out k hkl
      subst hpg
      have C1 := hid (fun (U : World) (hU : Below w.heap.size w U) => inprio1_any S s (l[i]) (l[k]) U (Nat.lt_of_lt_of_le hS hU.size) ((hU.cell (p := ⟨S, 0, none⟩) hS).trans HC.out))
      have CI := hid (fun (U : World) (hU : Below w.heap.size w U) => (HZ.out.on hU) i hil)
      have CK := hid (fun (U : World) (hU : Below w.heap.size w U) => (HZ.out.on hU) k hkl)
      obtain ⟨x, hx⟩ : ∃ x, l[i]'hil = x := ⟨_, rfl⟩
      obtain ⟨y, hy⟩ : ∃ x, l[k]'hkl = x := ⟨_, rfl⟩
      rw [hx] at CI C1 HT HF
      rw [hy] at CK C1 HT HF
      have HS := hid (fun (U : World) (hU : Below w.heap.size w U) => show ((U).cell? ⟨g, i * 7, none⟩ = some (.int .u64 x.id) ∧ (U).cell? ⟨g, i * 7 + 1, none⟩ = some (.int .u32 x.mb) ∧ (U).cell? ⟨g, i * 7 + 2, none⟩ = some (.int .i64 x.ty) ∧ (U).cell? ⟨g, i * 7 + 3, none⟩ = some (.int .i64 x.pr) ∧ (U).cell? ⟨g, i * 7 + 4, none⟩ = some (.int .u64 x.vi) ∧ (U).cell? ⟨g, i * 7 + 5, none⟩ = some (.int .u64 x.hi) ∧ (U).cell? ⟨g, i * 7 + 6, none⟩ = some (.int .u64 x.pk) ∧ (U).cell? ⟨g, k * 7, none⟩ = some (.int .u64 y.id) ∧ (U).cell? ⟨g, k * 7 + 1, none⟩ = some (.int .u32 y.mb) ∧ (U).cell? ⟨g, k * 7 + 2, none⟩ = some (.int .i64 y.ty) ∧ (U).cell? ⟨g, k * 7 + 3, none⟩ = some (.int .i64 y.pr) ∧ (U).cell? ⟨g, k * 7 + 4, none⟩ = some (.int .u64 y.vi) ∧ (U).cell? ⟨g, k * 7 + 5, none⟩ = some (.int .u64 y.hi) ∧ (U).cell? ⟨g, k * 7 + 6, none⟩ = some (.int .u64 y.pk)) from by
        obtain ⟨g1, e1, _, a0, a1, a2, a3, a4, a5, a6⟩ := CI.out U hU
        obtain ⟨g2, e2, _, b0, b1, b2, b3, b4, b5, b6⟩ := CK.out U hU
        injection e1 with e1; injection e1 with e1; subst e1
        injection e2 with e2; injection e2 with e2; subst e2
        exact ⟨a0, a1, a2, a3, a4, a5, a6, b0, b1, b2, b3, b4, b5, b6⟩)
      unfold rtr at C1
      have hkk : (k : Int) + 1 = (i : Int) := by omega
      clear hx hy hil hkl CI CK hk
      have HBD := hid (show Below w.heap.size w wr.drew from HB.out.trans ((bdw _).mono HB.out.size))
      go_upto_region 4 with fail
      refine wp_region_held_drew (S := (fun U => ((U).cell? ⟨g, i * 7, none⟩ = some (.int .u64 x.id) ∧ (U).cell? ⟨g, i * 7 + 1, none⟩ = some (.int .u32 x.mb) ∧ (U).cell? ⟨g, i * 7 + 2, none⟩ = some (.int .i64 x.ty) ∧ (U).cell? ⟨g, i * 7 + 3, none⟩ = some (.int .i64 x.pr) ∧ (U).cell? ⟨g, i * 7 + 4, none⟩ = some (.int .u64 x.vi) ∧ (U).cell? ⟨g, i * 7 + 5, none⟩ = some (.int .u64 x.hi) ∧ (U).cell? ⟨g, i * 7 + 6, none⟩ = some (.int .u64 x.pk) ∧ (U).cell? ⟨g, k * 7, none⟩ = some (.int .u64 y.id) ∧ (U).cell? ⟨g, k * 7 + 1, none⟩ = some (.int .u32 y.mb) ∧ (U).cell? ⟨g, k * 7 + 2, none⟩ = some (.int .i64 y.ty) ∧ (U).cell? ⟨g, k * 7 + 3, none⟩ = some (.int .i64 y.pr) ∧ (U).cell? ⟨g, k * 7 + 4, none⟩ = some (.int .u64 y.vi) ∧ (U).cell? ⟨g, k * 7 + 5, none⟩ = some (.int .u64 y.hi) ∧ (U).cell? ⟨g, k * 7 + 6, none⟩ = some (.int .u64 y.pk)))) (by kernel_rfl) ?_ (fun hHeld => ?_)
      · (try dsimp only); (exact HS.out _ HBD.out)
      refine' wpAnyH_take (i := 0) (oi := _) (v := _) rfl (by kernel_rfl) (by kernel_rfl) (by kernel_rfl) (fun _ _ _ h => h) (Or.inl ⟨by kernel_rfl, ?hyq1⟩) (by assumption) ?restq1
      case hyq1 => (intro w hSw; (try dsimp only at hSw); go_simp; try (with_reducible rfl))
      try simp only [List.getElem_toArray, List.getElem_cons_succ, List.getElem_cons_zero, Act.put, List.setIfInBounds_toArray, List.set_cons_zero, List.set_cons_succ]
      refine' wpAnyH_take (i := 1) (oi := _) (v := _) rfl (by kernel_rfl) (by kernel_rfl) (by kernel_rfl) (fun _ _ _ h => h) (Or.inl ⟨by kernel_rfl, ?hyq2⟩) (by assumption) ?restq2
      case hyq2 => (intro w hSw; (try dsimp only at hSw); go_simp; try (with_reducible rfl))
      try simp only [List.getElem_toArray, List.getElem_cons_succ, List.getElem_cons_zero, Act.put, List.setIfInBounds_toArray, List.set_cons_zero, List.set_cons_succ]
      refine' wpAnyH_take (i := 2) (oi := _) (v := _) rfl (by kernel_rfl) (by kernel_rfl) (by kernel_rfl) (fun _ _ _ h => h) (Or.inl ⟨by kernel_rfl, ?hyq3⟩) (by assumption) ?restq3
      case hyq3 => (intro w hSw; (try dsimp only at hSw); go_simp; try (with_reducible rfl))
      try simp only [List.getElem_toArray, List.getElem_cons_succ, List.getElem_cons_zero, Act.put, List.setIfInBounds_toArray, List.set_cons_zero, List.set_cons_succ]
      refine' wpAnyH_take (i := 3) (oi := _) (v := _) rfl (by kernel_rfl) (by kernel_rfl) (by kernel_rfl) (fun _ _ _ h => h) (Or.inl ⟨by kernel_rfl, ?hyq4⟩) (by assumption) ?restq4
      case hyq4 => (intro w hSw; (try dsimp only at hSw); go_simp; try (with_reducible rfl))
      try simp only [List.getElem_toArray, List.getElem_cons_succ, List.getElem_cons_zero, Act.put, List.setIfInBounds_toArray, List.set_cons_zero, List.set_cons_succ]
      refine' wpAnyH_take (i := 4) (oi := _) (v := _) rfl (by kernel_rfl) (by kernel_rfl) (by kernel_rfl) (fun _ _ _ h => h) (Or.inl ⟨by kernel_rfl, ?hyq5⟩) (by assumption) ?restq5
      case hyq5 => (intro w hSw; (try dsimp only at hSw); go_simp; try (with_reducible rfl))
      try simp only [List.getElem_toArray, List.getElem_cons_succ, List.getElem_cons_zero, Act.put, List.setIfInBounds_toArray, List.set_cons_zero, List.set_cons_succ]
      refine' wpAnyH_take (i := 5) (oi := _) (v := _) rfl (by kernel_rfl) (by kernel_rfl) (by kernel_rfl) (fun _ _ _ h => h) (Or.inl ⟨by kernel_rfl, ?hyq6⟩) (by assumption) ?restq6
      case hyq6 => (intro w hSw; (try dsimp only at hSw); go_simp; try (with_reducible rfl))
      try simp only [List.getElem_toArray, List.getElem_cons_succ, List.getElem_cons_zero, Act.put, List.setIfInBounds_toArray, List.set_cons_zero, List.set_cons_succ]
      refine' wpAnyH_take (i := 6) (oi := _) (v := _) rfl (by kernel_rfl) (by kernel_rfl) (by kernel_rfl) (fun _ _ _ h => h) (Or.inl ⟨by kernel_rfl, ?hyq7⟩) (by assumption) ?restq7
      case hyq7 => (intro w hSw; (try dsimp only at hSw); go_simp; try (with_reducible rfl))
      try simp only [List.getElem_toArray, List.getElem_cons_succ, List.getElem_cons_zero, Act.put, List.setIfInBounds_toArray, List.set_cons_zero, List.set_cons_succ]
      refine' wpAnyH_take (i := 7) (oi := _) (v := _) rfl (by kernel_rfl) (by kernel_rfl) (by kernel_rfl) (fun _ _ _ h => h) (Or.inl ⟨by kernel_rfl, ?hyq8⟩) (by assumption) ?restq8
      case hyq8 => (intro w hSw; (try dsimp only at hSw); go_simp; try (with_reducible rfl))
      try simp only [List.getElem_toArray, List.getElem_cons_succ, List.getElem_cons_zero, Act.put, List.setIfInBounds_toArray, List.set_cons_zero, List.set_cons_succ]
      refine' wpAnyH_take (i := 8) (oi := _) (v := _) rfl (by kernel_rfl) (by kernel_rfl) (by kernel_rfl) (fun _ _ _ h => h) (Or.inl ⟨by kernel_rfl, ?hyq9⟩) (by assumption) ?restq9
      case hyq9 => (intro w hSw; (try dsimp only at hSw); go_simp; try (with_reducible rfl))
      try simp only [List.getElem_toArray, List.getElem_cons_succ, List.getElem_cons_zero, Act.put, List.setIfInBounds_toArray, List.set_cons_zero, List.set_cons_succ]
      refine' wpAnyH_take (i := 9) (oi := _) (v := _) rfl (by kernel_rfl) (by kernel_rfl) (by kernel_rfl) (fun _ _ _ h => h) (Or.inl ⟨by kernel_rfl, ?hyq10⟩) (by assumption) ?restq10
      case hyq10 => (intro w hSw; (try dsimp only at hSw); go_simp; try (with_reducible rfl))
      try simp only [List.getElem_toArray, List.getElem_cons_succ, List.getElem_cons_zero, Act.put, List.setIfInBounds_toArray, List.set_cons_zero, List.set_cons_succ]
      refine wpAnyH_ready (rs := [10]) (by kernel_rfl) (by simp) ?_
      refine AllReadyH.cons (o := _) rfl (fun K hK => ?_) AllReadyH.nil
      go_simp
      (go_at_call 44; with_reducible refine (C1.out _ HBD.out).mono ?_; rintro e w1 ⟨⟨r, rfl, hr⟩, H1⟩; have HRR := hid hr; clear hr; have HA := hid (HBD.out.trans (H1.mono HBD.out.size)); clear H1)
      (try go_wp2_with fail)
      refine hK.out _ _ ?_ (fun hHeld => ?_)
      · (try dsimp only); (exact HS.out _ HA.out)
      clear hK K
      try simp only [List.getElem_toArray, List.getElem_cons_succ, List.getElem_cons_zero, Act.put, List.setIfInBounds_toArray, List.set_cons_zero, List.set_cons_succ]
      obtain ⟨u, hu⟩ : ∃ u, bt s x.pr y.pr = u := ⟨_, rfl⟩
      rw [hu] at HRR HT HF
      clear hu
      have drn := HRR.out
      cases u with
      | true =>
        refine' wpAnyH_take (i := 11) (oi := _) (v := _) rfl (by kernel_rfl) (by kernel_rfl) (by kernel_rfl) (fun _ _ _ h => h) (Or.inl ⟨by kernel_rfl, ?hyq11⟩) (by assumption) ?restq11
        case hyq11 => (intro w hSw; (try dsimp only at hSw); go_simp; try (with_reducible rfl))
        try simp only [List.getElem_toArray, List.getElem_cons_succ, List.getElem_cons_zero, Act.put, List.setIfInBounds_toArray, List.set_cons_zero, List.set_cons_succ]
        refine wpAnyH_done (by kernel_rfl) ?_ _
        have e : B = false := HF.out rfl
        subst e
        go_wp2
        go_ret
        exact ⟨rfl, HA.out⟩
      | false =>
        refine' wpAnyH_take (i := 11) (oi := _) (v := _) rfl (by kernel_rfl) (by kernel_rfl) (by kernel_rfl) (fun _ _ _ h => h) (Or.inl ⟨by kernel_rfl, ?hyq12⟩) (by assumption) ?restq12
        case hyq12 => (intro w hSw; (try dsimp only at hSw); go_simp; try (with_reducible rfl))
        try simp only [List.getElem_toArray, List.getElem_cons_succ, List.getElem_cons_zero, Act.put, List.setIfInBounds_toArray, List.set_cons_zero, List.set_cons_succ]
        refine wpAnyH_done (by kernel_rfl) ?_ _
        go_wp2
        go_roundw
        case rel => exact ⟨(k : Int), by go_num, by omega, by omega, hid (HT.out rfl), HA⟩
        case measure => first | (simp [intOf]; done) | (simp [intOf]; omega)
    · have hm' : ¬ 0 < m := hm
      have dm : decide (0 < m) = false := decide_eq_false hm
      have e : B = true := by
        rw [← HBB.out]
        exact decide_eq_true (fun i h1 h2 => HI.out i h2 (by omega))
      subst e
      go_wp2
      go_ret
      exact ⟨rfl, HB.out⟩
theorem inprio_any (s : Int) (p : Option Addr) (c : Nat) (l : List Rt) (w : World) (hz : Rz w p l) (hn : l.length ≤ 4096) :
    Calls Tryd.prog 30 #[.int .i64 s, .slice p l.length c] w fun e w' => e = .returned (.bool (decide (SrR s l))) ∧ Below w.heap.size w w' := by
  have C := hid (issorted_any w.heap.size s p c l (w.alloc (.cells #[.int .i64 s] 3)) (hz.on (ball _ _)) hn (by simp) (row_cell (World.alloc_heap_new w (.cells #[.int .i64 s] 3)) 0))
  obtain ⟨b, hb⟩ : ∃ b, decide (SrR s l) = b := ⟨_, rfl⟩
  rw [hb] at C ⊢
  clear hz hn hb
  go_enter Tryd.func30, Tryd.ntmps30
  go_wp2_with (go_at_call 43; with_reducible refine (C.out).mono ?_; rintro e w1 ⟨rfl, H1⟩; have HA := hid H1; clear H1)
  go_ret
  exact ⟨rfl, btr (ball _ _) HA.out⟩
end Go.Proofs.YtjpkodllemoniaaDoor.Sr
