/-
  breakPatterns within its range.
-/
import Derived.Test.YtjpkodllemoniaaDoorSrI
import Derived.Test.YtjpkodllemoniaaDoorSsA
namespace Go.Proofs.YtjpkodllemoniaaDoor.Sr
open Go.RowKit Go.Deep
set_option linter.unusedVariables false
set_option linter.unusedSimpArgs false
set_option maxHeartbeats 8000000
set_option maxRecDepth 100000
attribute [local go_sem ↓] Go.wp_at_zero Go.wp_at_succ
theorem brk_in (g cap n : Nat) (l0 : List Int) (a b : Nat) (w0 : World) (h : Uz w0 g n l0) (hab : a ≤ b) (hbn : b ≤ n) (hn : n ≤ 1152921504606846976) :
    Calls Tryd.prog 59 #[.slice (some ⟨g, 0, none⟩) n cap, .int .i64 a, .int .i64 b] w0 fun e w' => e = .returned (.tuple #[]) ∧ Sp w0 w' g n (fun l => Go.Sort.PermIn a b l0.toArray l.toArray) := by
  have HS0 := hid (h.sp (F := fun l => Go.Sort.PermIn a b l0.toArray l.toArray) (Go.Sort.permIn_refl _ _ _))
  have hg : g < w0.heap.size := by obtain ⟨cur, e, _⟩ := h.row; exact row_lt e
  obtain ⟨L, hL⟩ : ∃ L, L = b - a := ⟨_, rfl⟩
  have wL : IntKind.i64.wrap ((b : Int) - (a : Int)) = (L : Int) := by rw [IntKind.wrap_i64]; omega
  have HL := hid hL
  by_cases h8 : 8 ≤ L
  · have i8 : (8 : Int) ≤ (L : Int) := by omega
    obtain ⟨d, hd⟩ : ∃ d, d = L / 4 := ⟨_, rfl⟩
    obtain ⟨e2, he2⟩ : ∃ e, e = d * 2 := ⟨_, rfl⟩
    obtain ⟨c, hc⟩ : ∃ c, c = a + e2 := ⟨_, rfl⟩
    obtain ⟨c1, hc1⟩ : ∃ q, c = q + 1 := ⟨c - 1, by omega⟩
    obtain ⟨c2, hc2⟩ : ∃ q, q = c + 1 := ⟨_, rfl⟩
    have td : ((L : Int)).tdiv 4 = (d : Int) := by rw [Int.tdiv_eq_ediv_of_nonneg (by omega)]; omega
    have wd : IntKind.i64.wrap (d : Int) = (d : Int) := by rw [IntKind.wrap_i64]; omega
    have w2 : IntKind.i64.wrap ((d : Int) * 2) = (e2 : Int) := by rw [IntKind.wrap_i64]; omega
    have wc : IntKind.i64.wrap ((a : Int) + (e2 : Int)) = (c : Int) := by rw [IntKind.wrap_i64]; omega
    have wc1 : IntKind.i64.wrap ((c : Int) - 1) = (c1 : Int) := by rw [IntKind.wrap_i64]; omega
    have wc2 : IntKind.i64.wrap ((c : Int) + 1) = (c2 : Int) := by rw [IntKind.wrap_i64]; omega
    have wl : IntKind.u64.wrap (L : Int) = (L : Int) := by rw [IntKind.wrap_u64]; omega
    have HEQ := hid (show L = b - a ∧ d = L / 4 ∧ e2 = d * 2 ∧ c = a + e2 ∧ c = c1 + 1 ∧ c2 = c + 1 ∧ 8 ≤ L from ⟨hL, hd, he2, hc, hc1, hc2, h8⟩)
    obtain ⟨s, hs⟩ : ∃ s, w0.heap.size = s := ⟨_, rfl⟩
    obtain ⟨W, hW⟩ : ∃ W, w0.alloc (.cells #[.int .u64 L] 100) = W := ⟨_, rfl⟩
    have HBW := hid (show Below w0.heap.size w0 W from by rw [← hW]; exact (Below.refl _ _).alloc (Nat.le_refl _) _)
    have HR := hid (show W.heap[s]? = some (.cells #[.int .u64 L] 100 (0, 0)) from by rw [← hW, ← hs]; exact World.alloc_heap_new _ _)
    have CN := hid (npow_any L (by omega) (by omega) W)
    have HSW := hid (HS0.out.on HBW.out)
    have HW := hid hW
    have HSS := hid hs
    clear h hW hs hL hd he2 hc hc1 hc2 h8
    go_enter Tryd.func59, Tryd.ntmps59
    go_upto_region 3 with fail
    rw [HW.out, HSS.out]
    go_upto_region 5 with (go_at_call 69; with_reducible refine (CN.out).mono ?_; rintro e v1 ⟨m, rfl, HM, hv⟩; subst hv)
    have wm : IntKind.u64.wrap ((m : Int) - 1) = (m : Int) - 1 := by rw [IntKind.wrap_u64]; have := HM.out; have := HEQ.out; omega
    go_loopw [9] (fun iv wr => ∃ i : Nat, iv = .int .i64 i ∧ c1 ≤ i ∧ i ≤ c2 + 1 ∧ Hid (∃ x : Int, wr.heap[s]? = some (.cells #[.int .u64 x] 100 (0, 0))) ∧ Hid (Sp w0 wr g n (fun l => Go.Sort.PermIn a b l0.toArray l.toArray))) (fun iv _ => c2 + 2 - (intOf iv).toNat)
    case atStart => exact ⟨c1, rfl, by omega, by have := HEQ.out; omega, hid ⟨_, HR.out⟩, HSW⟩
    case round =>
      obtain ⟨i, rfl, i0, i1, HX, HS⟩ := hrel
      by_cases hic : i ≤ c2
      · have iic : (i : Int) ≤ (c2 : Int) := by omega
        have wi : IntKind.i64.wrap ((i : Int) + 1) = ((i + 1 : Nat) : Int) := by rw [IntKind.wrap_i64]; have := HEQ.out; omega
        obtain ⟨x, hx⟩ := HX.out
        have CX := hid (next_any s x wr hx)
        clear hx
        go_upto_region 8 with (go_at_call 70; with_reducible refine (CX.out).mono ?_; rintro e v2 ⟨y, rfl, HY, KY⟩; obtain ⟨o, ho⟩ : ∃ o : Nat, bits BinOp.and IntKind.u64 y ((m : Int) - 1) = (o : Int) := ⟨(bits BinOp.and IntKind.u64 y ((m : Int) - 1)).toNat, (by have h1 := and_le y ((m : Int) - 1) (by have := HM.out; omega) (by have := HM.out; have := HEQ.out; omega); omega)⟩; have HO := hid (show (o : Int) ≤ (m : Int) - 1 from (by have h1 := and_le y ((m : Int) - 1) (by have := HM.out; omega) (by have := HM.out; have := HEQ.out; omega); omega)); have wo : IntKind.i64.wrap (o : Int) = (o : Int) := (by rw [IntKind.wrap_i64]; have := HO.out; have := HM.out; have := HEQ.out; omega))
        have HS2 := hid (show Sp w0 v2 g n (fun l => Go.Sort.PermIn a b l0.toArray l.toArray) from by
          obtain ⟨l, p1, u1, k1⟩ := HS.out
          obtain ⟨cur, hc, _⟩ := u1.row
          have hgs : g ≠ s := by have := HSS.out; omega
          exact ⟨l, p1, u1.same (KY.out.obj g (row_lt hc) hgs), k1.trans KY.out (fun j hj e => by have := HSS.out; omega)⟩)
        obtain ⟨l, p1, u1, k1⟩ := HS2.out
        have PP := hid p1
        have U1 := hid u1
        have K1 := hid k1
        have hin : i < n := by have := HEQ.out; omega
        have i0' : (0 : Int) ≤ (i : Int) := by omega
        have i2 : (i : Int) < (n : Int) := by omega
        clear p1 u1 k1 HS ho
        by_cases hLo : L ≤ o
        · have iLo : (L : Int) ≤ (o : Int) := by omega
          obtain ⟨q, hq⟩ : ∃ q, q = o - L := ⟨_, rfl⟩
          have wq : IntKind.i64.wrap ((o : Int) - (L : Int)) = (q : Int) := by rw [IntKind.wrap_i64]; have := HO.out; have := HM.out; have := HEQ.out; omega
          obtain ⟨p, hp⟩ : ∃ p, p = a + q := ⟨_, rfl⟩
          have wp : IntKind.i64.wrap ((a : Int) + (q : Int)) = (p : Int) := by rw [IntKind.wrap_i64]; have := HO.out; have := HM.out; have := HEQ.out; omega
          have hjn : p < n := by have := HO.out; have := HM.out; have := HEQ.out; omega
          have p0' : (0 : Int) ≤ (p : Int) := by omega
          have p2 : (p : Int) < (n : Int) := by omega
          have P1 := hid (show Go.Sort.PermIn a b l0.toArray (sw l i p).toArray from by
            rw [sw_arr]
            exact Go.Sort.permIn_trans _ _ _ _ _ PP.out (Go.Sort.swp_permIn _ _ _ _ _ (by have := HEQ.out; omega) (by have := HEQ.out; omega) (by omega) (by have := HO.out; have := HM.out; have := HEQ.out; omega) (by have := U1.out.len; simp; omega)))
          clear hq hp
          go_upto_region 10 with fail
          refine reg_any [47, 48, 49, 50, 51, 52, 53, 54, 55, 56, 57, 58, 59, 60, 61, 62, 63, 64] (fun X => Hid (Sp w0 X g n (fun l => Go.Sort.PermIn a b l0.toArray l.toArray)) ∧ Hid (Kp (fun b => b = g) v2 X)) ?_ ?_
          · have U2 := hid (U1.out.same (w' := v2.drew) rfl)
            have K2 := hid (K1.out.trans (Kp.drew _ v2) (fun _ _ e => e))
            obtain ⟨V, hV⟩ : ∃ U, v2.drew = U := ⟨_, rfl⟩
            rw [hV] at U2 K2
            obtain ⟨xi, hxi⟩ : ∃ x, gd l i = x := ⟨_, rfl⟩
            obtain ⟨xj, hxj⟩ : ∃ x, gd l p = x := ⟨_, rfl⟩
            have ci : V.cell? ⟨g, i, none⟩ = some (.int .u64 xi) := by rw [← hxi]; exact U2.out.cell hin
            have cj : V.cell? ⟨g, p, none⟩ = some (.int .u64 xj) := by rw [← hxj]; exact U2.out.cell hjn
            have fi := U2.out.frz i
            have fj := U2.out.frz p
            have U3 := hid (U2.out.set hin xj)
            have cj3 := U3.out.cell hjn
            have fj3 := U3.out.frz p
            have HSW := hid (Sp.swap (F := fun l => Go.Sort.PermIn a b l0.toArray l.toArray) P1.out U2.out K2.out hin hjn)
            have HKW := hid (((Kp.drew (fun b => b = g) v2).trans (by rw [hV]; exact Kp.set V g i (.int .u64 (gd l p))) (fun _ _ e => e)).trans (Kp.set _ g p (.int .u64 (gd l i))) (fun _ _ e => e))
            rw [hxi, hxj] at HSW HKW
            refine wp_region_held_drew (S := fun _ => True) (by kernel_rfl) trivial (fun _ => ?_)
            rw [hV]
            clear hV hxi hxj
            refine' wpAnyH_take (i := 0) (oi := _) (v := _) rfl (by kernel_rfl) (by kernel_rfl) (by kernel_rfl) (fun _ _ _ h => h) (Or.inl ⟨by kernel_rfl, ?_⟩) (by trivial) ?_
            rotate_left
            · (intro w hSw; go_simp; try (with_reducible rfl))
            try simp only [List.getElem_toArray, List.getElem_cons_succ, List.getElem_cons_zero, Act.put, List.setIfInBounds_toArray, List.set_cons_zero, List.set_cons_succ]
            refine' wpAnyH_take (i := 1) (oi := _) (v := _) rfl (by kernel_rfl) (by kernel_rfl) (by kernel_rfl) (fun _ _ _ h => h) (Or.inl ⟨by kernel_rfl, ?_⟩) (by trivial) ?_
            rotate_left
            · (intro w hSw; go_simp; try (with_reducible rfl))
            try simp only [List.getElem_toArray, List.getElem_cons_succ, List.getElem_cons_zero, Act.put, List.setIfInBounds_toArray, List.set_cons_zero, List.set_cons_succ]
            refine' wpAnyH_take (i := 2) (oi := _) (v := _) rfl (by kernel_rfl) (by kernel_rfl) (by kernel_rfl) (fun _ _ _ h => h) (Or.inl ⟨by kernel_rfl, ?_⟩) (by trivial) ?_
            rotate_left
            · (intro w hSw; go_simp; try (with_reducible rfl))
            try simp only [List.getElem_toArray, List.getElem_cons_succ, List.getElem_cons_zero, Act.put, List.setIfInBounds_toArray, List.set_cons_zero, List.set_cons_succ]
            refine' wpAnyH_take (i := 3) (oi := _) (v := _) rfl (by kernel_rfl) (by kernel_rfl) (by kernel_rfl) (fun _ _ _ h => h) (Or.inl ⟨by kernel_rfl, ?_⟩) (by trivial) ?_
            rotate_left
            · (intro w hSw; go_simp; try (with_reducible rfl))
            try simp only [List.getElem_toArray, List.getElem_cons_succ, List.getElem_cons_zero, Act.put, List.setIfInBounds_toArray, List.set_cons_zero, List.set_cons_succ]
            refine' wpAnyH_take (i := 4) (oi := _) (v := _) rfl (by kernel_rfl) (by kernel_rfl) (by kernel_rfl) (fun _ _ _ h => h) (Or.inl ⟨by kernel_rfl, ?_⟩) (by trivial) ?_
            rotate_left
            · (intro w hSw; go_simp; try (with_reducible rfl))
            try simp only [List.getElem_toArray, List.getElem_cons_succ, List.getElem_cons_zero, Act.put, List.setIfInBounds_toArray, List.set_cons_zero, List.set_cons_succ]
            refine' wpAnyH_take (i := 5) (oi := _) (v := _) rfl (by kernel_rfl) (by kernel_rfl) (by kernel_rfl) (fun _ _ _ h => h) (Or.inl ⟨by kernel_rfl, ?_⟩) (by trivial) ?_
            rotate_left
            · (intro w hSw; go_simp; try (with_reducible rfl))
            try simp only [List.getElem_toArray, List.getElem_cons_succ, List.getElem_cons_zero, Act.put, List.setIfInBounds_toArray, List.set_cons_zero, List.set_cons_succ]
            refine' wpAnyH_take (i := 6) (oi := _) (v := _) rfl (by kernel_rfl) (by kernel_rfl) (by kernel_rfl) (fun _ _ _ h => h) (Or.inl ⟨by kernel_rfl, ?_⟩) (by trivial) ?_
            rotate_left
            · (intro w hSw; go_simp; try (with_reducible rfl))
            try simp only [List.getElem_toArray, List.getElem_cons_succ, List.getElem_cons_zero, Act.put, List.setIfInBounds_toArray, List.set_cons_zero, List.set_cons_succ]
            refine' wpAnyH_take (i := 7) (oi := _) (v := _) rfl (by kernel_rfl) (by kernel_rfl) (by kernel_rfl) (fun _ _ _ h => h) (Or.inl ⟨by kernel_rfl, ?_⟩) (by trivial) ?_
            rotate_left
            · (intro w hSw; go_simp; try (with_reducible rfl))
            try simp only [List.getElem_toArray, List.getElem_cons_succ, List.getElem_cons_zero, Act.put, List.setIfInBounds_toArray, List.set_cons_zero, List.set_cons_succ]
            refine' wpAnyH_take (i := 8) (oi := _) (v := _) rfl (by kernel_rfl) (by kernel_rfl) (by kernel_rfl) (fun _ _ _ h => h) (Or.inl ⟨by kernel_rfl, ?_⟩) (by trivial) ?_
            rotate_left
            · (intro w hSw; go_simp; try (with_reducible rfl))
            try simp only [List.getElem_toArray, List.getElem_cons_succ, List.getElem_cons_zero, Act.put, List.setIfInBounds_toArray, List.set_cons_zero, List.set_cons_succ]
            refine' wpAnyH_take (i := 9) (oi := _) (v := _) rfl (by kernel_rfl) (by kernel_rfl) (by kernel_rfl) (fun _ _ _ h => h) (Or.inl ⟨by kernel_rfl, ?_⟩) (by trivial) ?_
            rotate_left
            · (intro w hSw; go_simp; try (with_reducible rfl))
            try simp only [List.getElem_toArray, List.getElem_cons_succ, List.getElem_cons_zero, Act.put, List.setIfInBounds_toArray, List.set_cons_zero, List.set_cons_succ]
            refine' wpAnyH_take (i := 10) (oi := _) (v := _) rfl (by kernel_rfl) (by kernel_rfl) (by kernel_rfl) (fun _ _ _ h => h) (Or.inl ⟨by kernel_rfl, ?_⟩) (by trivial) ?_
            rotate_left
            · (intro w hSw; go_simp; try (with_reducible rfl))
            try simp only [List.getElem_toArray, List.getElem_cons_succ, List.getElem_cons_zero, Act.put, List.setIfInBounds_toArray, List.set_cons_zero, List.set_cons_succ]
            refine' wpAnyH_take (i := 12) (oi := _) (v := _) rfl (by kernel_rfl) (by kernel_rfl) (by kernel_rfl) (fun _ _ _ h => h) (Or.inl ⟨by kernel_rfl, ?_⟩) (by trivial) ?_
            rotate_left
            · (intro w hSw; go_simp; try (with_reducible rfl))
            try simp only [List.getElem_toArray, List.getElem_cons_succ, List.getElem_cons_zero, Act.put, List.setIfInBounds_toArray, List.set_cons_zero, List.set_cons_succ]
            refine' wpAnyH_take (i := 13) (oi := _) (v := _) rfl (by kernel_rfl) (by kernel_rfl) (by kernel_rfl) (fun _ _ _ h => h) (Or.inl ⟨by kernel_rfl, ?_⟩) (by trivial) ?_
            rotate_left
            · (intro w hSw; go_simp; try (with_reducible rfl))
            try simp only [List.getElem_toArray, List.getElem_cons_succ, List.getElem_cons_zero, Act.put, List.setIfInBounds_toArray, List.set_cons_zero, List.set_cons_succ]
            refine' wpAnyH_take (i := 14) (oi := _) (v := _) rfl (by kernel_rfl) (by kernel_rfl) (by kernel_rfl) (fun _ _ _ h => h) (Or.inl ⟨by kernel_rfl, ?_⟩) (by trivial) ?_
            rotate_left
            · (intro w hSw; go_simp; try (with_reducible rfl))
            try simp only [List.getElem_toArray, List.getElem_cons_succ, List.getElem_cons_zero, Act.put, List.setIfInBounds_toArray, List.set_cons_zero, List.set_cons_succ]
            refine wpAnyH_ready (rs := [11, 15]) (by kernel_rfl) (by simp) ?_
            refine (AllReadyH.cons (o := _) rfl (fun K hK => ?_) (AllReadyH.cons (o := _) rfl (fun K hK => ?_) AllReadyH.nil))
            · go_simp
              refine hK.out _ _ trivial (fun _ => ?_)
              clear hK K
              try simp only [List.getElem_toArray, List.getElem_cons_succ, List.getElem_cons_zero, Act.put, List.setIfInBounds_toArray, List.set_cons_zero, List.set_cons_succ]
              refine wpAnyH_ready (rs := [15]) (by kernel_rfl) (by simp) ?_
              refine (AllReadyH.cons (o := _) rfl (fun K hK => ?_) AllReadyH.nil)
              go_simp
              refine hK.out _ _ trivial (fun _ => ?_)
              clear hK K
              try simp only [List.getElem_toArray, List.getElem_cons_succ, List.getElem_cons_zero, Act.put, List.setIfInBounds_toArray, List.set_cons_zero, List.set_cons_succ]
              refine' wpAnyH_take (i := 16) (oi := _) (v := _) rfl (by kernel_rfl) (by kernel_rfl) (by kernel_rfl) (fun _ _ _ h => h) (Or.inl ⟨by kernel_rfl, ?_⟩) (by trivial) ?_
              rotate_left
              · (intro w hSw; go_simp; try (with_reducible rfl))
              try simp only [List.getElem_toArray, List.getElem_cons_succ, List.getElem_cons_zero, Act.put, List.setIfInBounds_toArray, List.set_cons_zero, List.set_cons_succ]
              refine wpAnyH_ready (rs := [17]) (by kernel_rfl) (by simp) ?_
              refine (AllReadyH.cons (o := _) rfl (fun K hK => ?_) AllReadyH.nil)
              go_simp
              refine hK.out _ _ trivial (fun _ => ?_)
              clear hK K
              try simp only [List.getElem_toArray, List.getElem_cons_succ, List.getElem_cons_zero, Act.put, List.setIfInBounds_toArray, List.set_cons_zero, List.set_cons_succ]
              refine' wpAnyH_take (i := 18) (oi := _) (v := _) rfl (by kernel_rfl) (by kernel_rfl) (by kernel_rfl) (fun _ _ _ h => h) (Or.inl ⟨by kernel_rfl, ?_⟩) (by trivial) ?_
              rotate_left
              · (intro w hSw; go_simp; try (with_reducible rfl))
              try simp only [List.getElem_toArray, List.getElem_cons_succ, List.getElem_cons_zero, Act.put, List.setIfInBounds_toArray, List.set_cons_zero, List.set_cons_succ]
              refine wpAnyH_ready (rs := [19]) (by kernel_rfl) (by simp) ?_
              refine (AllReadyH.cons (o := _) rfl (fun K hK => ?_) AllReadyH.nil)
              go_simp
              refine hK.out _ _ trivial (fun _ => ?_)
              clear hK K
              try simp only [List.getElem_toArray, List.getElem_cons_succ, List.getElem_cons_zero, Act.put, List.setIfInBounds_toArray, List.set_cons_zero, List.set_cons_succ]
              refine wpAnyH_done (by kernel_rfl) ?_ _
              exact ⟨by kernel_rfl, HSW, HKW⟩
            · go_simp
              refine hK.out _ _ trivial (fun _ => ?_)
              clear hK K
              try simp only [List.getElem_toArray, List.getElem_cons_succ, List.getElem_cons_zero, Act.put, List.setIfInBounds_toArray, List.set_cons_zero, List.set_cons_succ]
              refine wpAnyH_ready (rs := [11]) (by kernel_rfl) (by simp) ?_
              refine (AllReadyH.cons (o := _) rfl (fun K hK => ?_) AllReadyH.nil)
              go_simp
              refine hK.out _ _ trivial (fun _ => ?_)
              clear hK K
              try simp only [List.getElem_toArray, List.getElem_cons_succ, List.getElem_cons_zero, Act.put, List.setIfInBounds_toArray, List.set_cons_zero, List.set_cons_succ]
              refine' wpAnyH_take (i := 16) (oi := _) (v := _) rfl (by kernel_rfl) (by kernel_rfl) (by kernel_rfl) (fun _ _ _ h => h) (Or.inl ⟨by kernel_rfl, ?_⟩) (by trivial) ?_
              rotate_left
              · (intro w hSw; go_simp; try (with_reducible rfl))
              try simp only [List.getElem_toArray, List.getElem_cons_succ, List.getElem_cons_zero, Act.put, List.setIfInBounds_toArray, List.set_cons_zero, List.set_cons_succ]
              refine wpAnyH_ready (rs := [17]) (by kernel_rfl) (by simp) ?_
              refine (AllReadyH.cons (o := _) rfl (fun K hK => ?_) AllReadyH.nil)
              go_simp
              refine hK.out _ _ trivial (fun _ => ?_)
              clear hK K
              try simp only [List.getElem_toArray, List.getElem_cons_succ, List.getElem_cons_zero, Act.put, List.setIfInBounds_toArray, List.set_cons_zero, List.set_cons_succ]
              refine' wpAnyH_take (i := 18) (oi := _) (v := _) rfl (by kernel_rfl) (by kernel_rfl) (by kernel_rfl) (fun _ _ _ h => h) (Or.inl ⟨by kernel_rfl, ?_⟩) (by trivial) ?_
              rotate_left
              · (intro w hSw; go_simp; try (with_reducible rfl))
              try simp only [List.getElem_toArray, List.getElem_cons_succ, List.getElem_cons_zero, Act.put, List.setIfInBounds_toArray, List.set_cons_zero, List.set_cons_succ]
              refine wpAnyH_ready (rs := [19]) (by kernel_rfl) (by simp) ?_
              refine (AllReadyH.cons (o := _) rfl (fun K hK => ?_) AllReadyH.nil)
              go_simp
              refine hK.out _ _ trivial (fun _ => ?_)
              clear hK K
              try simp only [List.getElem_toArray, List.getElem_cons_succ, List.getElem_cons_zero, Act.put, List.setIfInBounds_toArray, List.set_cons_zero, List.set_cons_succ]
              refine wpAnyH_done (by kernel_rfl) ?_ _
              exact ⟨by kernel_rfl, HSW, HKW⟩
          · rintro t X ⟨HS, HKX⟩
            simp only [puts, List.foldl_cons, List.foldl_nil, Act.put, List.setIfInBounds_toArray, List.set_cons_zero, List.set_cons_succ]
            have HXX := hid (show ∃ x : Int, X.heap[s]? = some (.cells #[.int .u64 x] 100 (0, 0)) from ⟨y, (HKX.out.obj s (row_lt HY.out) (by have := HSS.out; omega)).trans HY.out⟩)
            go_wp2
            go_roundw
            case rel => exact ⟨i + 1, by go_num, by omega, by omega, HXX, HS⟩
            case measure => first | (simp [intOf]; done) | (simp [intOf]; omega)
        · have iLo : ¬ (L : Int) ≤ (o : Int) := by omega
          have dLo : decide ((L : Int) ≤ (o : Int)) = false := decide_eq_false iLo
          obtain ⟨p, hp⟩ : ∃ p, p = a + o := ⟨_, rfl⟩
          have wp : IntKind.i64.wrap ((a : Int) + (o : Int)) = (p : Int) := by rw [IntKind.wrap_i64]; have := HEQ.out; omega
          have hjn : p < n := by have := HEQ.out; omega
          have p0' : (0 : Int) ≤ (p : Int) := by omega
          have p2 : (p : Int) < (n : Int) := by omega
          have P1 := hid (show Go.Sort.PermIn a b l0.toArray (sw l i p).toArray from by
            rw [sw_arr]
            exact Go.Sort.permIn_trans _ _ _ _ _ PP.out (Go.Sort.swp_permIn _ _ _ _ _ (by have := HEQ.out; omega) (by have := HEQ.out; omega) (by omega) (by have := HO.out; have := HM.out; have := HEQ.out; omega) (by have := U1.out.len; simp; omega)))
          clear hp
          go_upto_region 10 with fail
          refine reg_any [47, 48, 49, 50, 51, 52, 53, 54, 55, 56, 57, 58, 59, 60, 61, 62, 63, 64] (fun X => Hid (Sp w0 X g n (fun l => Go.Sort.PermIn a b l0.toArray l.toArray)) ∧ Hid (Kp (fun b => b = g) v2 X)) ?_ ?_
          · have U2 := hid (U1.out.same (w' := v2.drew) rfl)
            have K2 := hid (K1.out.trans (Kp.drew _ v2) (fun _ _ e => e))
            obtain ⟨V, hV⟩ : ∃ U, v2.drew = U := ⟨_, rfl⟩
            rw [hV] at U2 K2
            obtain ⟨xi, hxi⟩ : ∃ x, gd l i = x := ⟨_, rfl⟩
            obtain ⟨xj, hxj⟩ : ∃ x, gd l p = x := ⟨_, rfl⟩
            have ci : V.cell? ⟨g, i, none⟩ = some (.int .u64 xi) := by rw [← hxi]; exact U2.out.cell hin
            have cj : V.cell? ⟨g, p, none⟩ = some (.int .u64 xj) := by rw [← hxj]; exact U2.out.cell hjn
            have fi := U2.out.frz i
            have fj := U2.out.frz p
            have U3 := hid (U2.out.set hin xj)
            have cj3 := U3.out.cell hjn
            have fj3 := U3.out.frz p
            have HSW := hid (Sp.swap (F := fun l => Go.Sort.PermIn a b l0.toArray l.toArray) P1.out U2.out K2.out hin hjn)
            have HKW := hid (((Kp.drew (fun b => b = g) v2).trans (by rw [hV]; exact Kp.set V g i (.int .u64 (gd l p))) (fun _ _ e => e)).trans (Kp.set _ g p (.int .u64 (gd l i))) (fun _ _ e => e))
            rw [hxi, hxj] at HSW HKW
            refine wp_region_held_drew (S := fun _ => True) (by kernel_rfl) trivial (fun _ => ?_)
            rw [hV]
            clear hV hxi hxj
            refine' wpAnyH_take (i := 0) (oi := _) (v := _) rfl (by kernel_rfl) (by kernel_rfl) (by kernel_rfl) (fun _ _ _ h => h) (Or.inl ⟨by kernel_rfl, ?_⟩) (by trivial) ?_
            rotate_left
            · (intro w hSw; go_simp; try (with_reducible rfl))
            try simp only [List.getElem_toArray, List.getElem_cons_succ, List.getElem_cons_zero, Act.put, List.setIfInBounds_toArray, List.set_cons_zero, List.set_cons_succ]
            refine' wpAnyH_take (i := 1) (oi := _) (v := _) rfl (by kernel_rfl) (by kernel_rfl) (by kernel_rfl) (fun _ _ _ h => h) (Or.inl ⟨by kernel_rfl, ?_⟩) (by trivial) ?_
            rotate_left
            · (intro w hSw; go_simp; try (with_reducible rfl))
            try simp only [List.getElem_toArray, List.getElem_cons_succ, List.getElem_cons_zero, Act.put, List.setIfInBounds_toArray, List.set_cons_zero, List.set_cons_succ]
            refine' wpAnyH_take (i := 2) (oi := _) (v := _) rfl (by kernel_rfl) (by kernel_rfl) (by kernel_rfl) (fun _ _ _ h => h) (Or.inl ⟨by kernel_rfl, ?_⟩) (by trivial) ?_
            rotate_left
            · (intro w hSw; go_simp; try (with_reducible rfl))
            try simp only [List.getElem_toArray, List.getElem_cons_succ, List.getElem_cons_zero, Act.put, List.setIfInBounds_toArray, List.set_cons_zero, List.set_cons_succ]
            refine' wpAnyH_take (i := 3) (oi := _) (v := _) rfl (by kernel_rfl) (by kernel_rfl) (by kernel_rfl) (fun _ _ _ h => h) (Or.inl ⟨by kernel_rfl, ?_⟩) (by trivial) ?_
            rotate_left
            · (intro w hSw; go_simp; try (with_reducible rfl))
            try simp only [List.getElem_toArray, List.getElem_cons_succ, List.getElem_cons_zero, Act.put, List.setIfInBounds_toArray, List.set_cons_zero, List.set_cons_succ]
            refine' wpAnyH_take (i := 4) (oi := _) (v := _) rfl (by kernel_rfl) (by kernel_rfl) (by kernel_rfl) (fun _ _ _ h => h) (Or.inl ⟨by kernel_rfl, ?_⟩) (by trivial) ?_
            rotate_left
            · (intro w hSw; go_simp; try (with_reducible rfl))
            try simp only [List.getElem_toArray, List.getElem_cons_succ, List.getElem_cons_zero, Act.put, List.setIfInBounds_toArray, List.set_cons_zero, List.set_cons_succ]
            refine' wpAnyH_take (i := 5) (oi := _) (v := _) rfl (by kernel_rfl) (by kernel_rfl) (by kernel_rfl) (fun _ _ _ h => h) (Or.inl ⟨by kernel_rfl, ?_⟩) (by trivial) ?_
            rotate_left
            · (intro w hSw; go_simp; try (with_reducible rfl))
            try simp only [List.getElem_toArray, List.getElem_cons_succ, List.getElem_cons_zero, Act.put, List.setIfInBounds_toArray, List.set_cons_zero, List.set_cons_succ]
            refine' wpAnyH_take (i := 6) (oi := _) (v := _) rfl (by kernel_rfl) (by kernel_rfl) (by kernel_rfl) (fun _ _ _ h => h) (Or.inl ⟨by kernel_rfl, ?_⟩) (by trivial) ?_
            rotate_left
            · (intro w hSw; go_simp; try (with_reducible rfl))
            try simp only [List.getElem_toArray, List.getElem_cons_succ, List.getElem_cons_zero, Act.put, List.setIfInBounds_toArray, List.set_cons_zero, List.set_cons_succ]
            refine' wpAnyH_take (i := 7) (oi := _) (v := _) rfl (by kernel_rfl) (by kernel_rfl) (by kernel_rfl) (fun _ _ _ h => h) (Or.inl ⟨by kernel_rfl, ?_⟩) (by trivial) ?_
            rotate_left
            · (intro w hSw; go_simp; try (with_reducible rfl))
            try simp only [List.getElem_toArray, List.getElem_cons_succ, List.getElem_cons_zero, Act.put, List.setIfInBounds_toArray, List.set_cons_zero, List.set_cons_succ]
            refine' wpAnyH_take (i := 8) (oi := _) (v := _) rfl (by kernel_rfl) (by kernel_rfl) (by kernel_rfl) (fun _ _ _ h => h) (Or.inl ⟨by kernel_rfl, ?_⟩) (by trivial) ?_
            rotate_left
            · (intro w hSw; go_simp; try (with_reducible rfl))
            try simp only [List.getElem_toArray, List.getElem_cons_succ, List.getElem_cons_zero, Act.put, List.setIfInBounds_toArray, List.set_cons_zero, List.set_cons_succ]
            refine' wpAnyH_take (i := 9) (oi := _) (v := _) rfl (by kernel_rfl) (by kernel_rfl) (by kernel_rfl) (fun _ _ _ h => h) (Or.inl ⟨by kernel_rfl, ?_⟩) (by trivial) ?_
            rotate_left
            · (intro w hSw; go_simp; try (with_reducible rfl))
            try simp only [List.getElem_toArray, List.getElem_cons_succ, List.getElem_cons_zero, Act.put, List.setIfInBounds_toArray, List.set_cons_zero, List.set_cons_succ]
            refine' wpAnyH_take (i := 10) (oi := _) (v := _) rfl (by kernel_rfl) (by kernel_rfl) (by kernel_rfl) (fun _ _ _ h => h) (Or.inl ⟨by kernel_rfl, ?_⟩) (by trivial) ?_
            rotate_left
            · (intro w hSw; go_simp; try (with_reducible rfl))
            try simp only [List.getElem_toArray, List.getElem_cons_succ, List.getElem_cons_zero, Act.put, List.setIfInBounds_toArray, List.set_cons_zero, List.set_cons_succ]
            refine' wpAnyH_take (i := 12) (oi := _) (v := _) rfl (by kernel_rfl) (by kernel_rfl) (by kernel_rfl) (fun _ _ _ h => h) (Or.inl ⟨by kernel_rfl, ?_⟩) (by trivial) ?_
            rotate_left
            · (intro w hSw; go_simp; try (with_reducible rfl))
            try simp only [List.getElem_toArray, List.getElem_cons_succ, List.getElem_cons_zero, Act.put, List.setIfInBounds_toArray, List.set_cons_zero, List.set_cons_succ]
            refine' wpAnyH_take (i := 13) (oi := _) (v := _) rfl (by kernel_rfl) (by kernel_rfl) (by kernel_rfl) (fun _ _ _ h => h) (Or.inl ⟨by kernel_rfl, ?_⟩) (by trivial) ?_
            rotate_left
            · (intro w hSw; go_simp; try (with_reducible rfl))
            try simp only [List.getElem_toArray, List.getElem_cons_succ, List.getElem_cons_zero, Act.put, List.setIfInBounds_toArray, List.set_cons_zero, List.set_cons_succ]
            refine' wpAnyH_take (i := 14) (oi := _) (v := _) rfl (by kernel_rfl) (by kernel_rfl) (by kernel_rfl) (fun _ _ _ h => h) (Or.inl ⟨by kernel_rfl, ?_⟩) (by trivial) ?_
            rotate_left
            · (intro w hSw; go_simp; try (with_reducible rfl))
            try simp only [List.getElem_toArray, List.getElem_cons_succ, List.getElem_cons_zero, Act.put, List.setIfInBounds_toArray, List.set_cons_zero, List.set_cons_succ]
            refine wpAnyH_ready (rs := [11, 15]) (by kernel_rfl) (by simp) ?_
            refine (AllReadyH.cons (o := _) rfl (fun K hK => ?_) (AllReadyH.cons (o := _) rfl (fun K hK => ?_) AllReadyH.nil))
            · go_simp
              refine hK.out _ _ trivial (fun _ => ?_)
              clear hK K
              try simp only [List.getElem_toArray, List.getElem_cons_succ, List.getElem_cons_zero, Act.put, List.setIfInBounds_toArray, List.set_cons_zero, List.set_cons_succ]
              refine wpAnyH_ready (rs := [15]) (by kernel_rfl) (by simp) ?_
              refine (AllReadyH.cons (o := _) rfl (fun K hK => ?_) AllReadyH.nil)
              go_simp
              refine hK.out _ _ trivial (fun _ => ?_)
              clear hK K
              try simp only [List.getElem_toArray, List.getElem_cons_succ, List.getElem_cons_zero, Act.put, List.setIfInBounds_toArray, List.set_cons_zero, List.set_cons_succ]
              refine' wpAnyH_take (i := 16) (oi := _) (v := _) rfl (by kernel_rfl) (by kernel_rfl) (by kernel_rfl) (fun _ _ _ h => h) (Or.inl ⟨by kernel_rfl, ?_⟩) (by trivial) ?_
              rotate_left
              · (intro w hSw; go_simp; try (with_reducible rfl))
              try simp only [List.getElem_toArray, List.getElem_cons_succ, List.getElem_cons_zero, Act.put, List.setIfInBounds_toArray, List.set_cons_zero, List.set_cons_succ]
              refine wpAnyH_ready (rs := [17]) (by kernel_rfl) (by simp) ?_
              refine (AllReadyH.cons (o := _) rfl (fun K hK => ?_) AllReadyH.nil)
              go_simp
              refine hK.out _ _ trivial (fun _ => ?_)
              clear hK K
              try simp only [List.getElem_toArray, List.getElem_cons_succ, List.getElem_cons_zero, Act.put, List.setIfInBounds_toArray, List.set_cons_zero, List.set_cons_succ]
              refine' wpAnyH_take (i := 18) (oi := _) (v := _) rfl (by kernel_rfl) (by kernel_rfl) (by kernel_rfl) (fun _ _ _ h => h) (Or.inl ⟨by kernel_rfl, ?_⟩) (by trivial) ?_
              rotate_left
              · (intro w hSw; go_simp; try (with_reducible rfl))
              try simp only [List.getElem_toArray, List.getElem_cons_succ, List.getElem_cons_zero, Act.put, List.setIfInBounds_toArray, List.set_cons_zero, List.set_cons_succ]
              refine wpAnyH_ready (rs := [19]) (by kernel_rfl) (by simp) ?_
              refine (AllReadyH.cons (o := _) rfl (fun K hK => ?_) AllReadyH.nil)
              go_simp
              refine hK.out _ _ trivial (fun _ => ?_)
              clear hK K
              try simp only [List.getElem_toArray, List.getElem_cons_succ, List.getElem_cons_zero, Act.put, List.setIfInBounds_toArray, List.set_cons_zero, List.set_cons_succ]
              refine wpAnyH_done (by kernel_rfl) ?_ _
              exact ⟨by kernel_rfl, HSW, HKW⟩
            · go_simp
              refine hK.out _ _ trivial (fun _ => ?_)
              clear hK K
              try simp only [List.getElem_toArray, List.getElem_cons_succ, List.getElem_cons_zero, Act.put, List.setIfInBounds_toArray, List.set_cons_zero, List.set_cons_succ]
              refine wpAnyH_ready (rs := [11]) (by kernel_rfl) (by simp) ?_
              refine (AllReadyH.cons (o := _) rfl (fun K hK => ?_) AllReadyH.nil)
              go_simp
              refine hK.out _ _ trivial (fun _ => ?_)
              clear hK K
              try simp only [List.getElem_toArray, List.getElem_cons_succ, List.getElem_cons_zero, Act.put, List.setIfInBounds_toArray, List.set_cons_zero, List.set_cons_succ]
              refine' wpAnyH_take (i := 16) (oi := _) (v := _) rfl (by kernel_rfl) (by kernel_rfl) (by kernel_rfl) (fun _ _ _ h => h) (Or.inl ⟨by kernel_rfl, ?_⟩) (by trivial) ?_
              rotate_left
              · (intro w hSw; go_simp; try (with_reducible rfl))
              try simp only [List.getElem_toArray, List.getElem_cons_succ, List.getElem_cons_zero, Act.put, List.setIfInBounds_toArray, List.set_cons_zero, List.set_cons_succ]
              refine wpAnyH_ready (rs := [17]) (by kernel_rfl) (by simp) ?_
              refine (AllReadyH.cons (o := _) rfl (fun K hK => ?_) AllReadyH.nil)
              go_simp
              refine hK.out _ _ trivial (fun _ => ?_)
              clear hK K
              try simp only [List.getElem_toArray, List.getElem_cons_succ, List.getElem_cons_zero, Act.put, List.setIfInBounds_toArray, List.set_cons_zero, List.set_cons_succ]
              refine' wpAnyH_take (i := 18) (oi := _) (v := _) rfl (by kernel_rfl) (by kernel_rfl) (by kernel_rfl) (fun _ _ _ h => h) (Or.inl ⟨by kernel_rfl, ?_⟩) (by trivial) ?_
              rotate_left
              · (intro w hSw; go_simp; try (with_reducible rfl))
              try simp only [List.getElem_toArray, List.getElem_cons_succ, List.getElem_cons_zero, Act.put, List.setIfInBounds_toArray, List.set_cons_zero, List.set_cons_succ]
              refine wpAnyH_ready (rs := [19]) (by kernel_rfl) (by simp) ?_
              refine (AllReadyH.cons (o := _) rfl (fun K hK => ?_) AllReadyH.nil)
              go_simp
              refine hK.out _ _ trivial (fun _ => ?_)
              clear hK K
              try simp only [List.getElem_toArray, List.getElem_cons_succ, List.getElem_cons_zero, Act.put, List.setIfInBounds_toArray, List.set_cons_zero, List.set_cons_succ]
              refine wpAnyH_done (by kernel_rfl) ?_ _
              exact ⟨by kernel_rfl, HSW, HKW⟩
          · rintro t X ⟨HS, HKX⟩
            simp only [puts, List.foldl_cons, List.foldl_nil, Act.put, List.setIfInBounds_toArray, List.set_cons_zero, List.set_cons_succ]
            have HXX := hid (show ∃ x : Int, X.heap[s]? = some (.cells #[.int .u64 x] 100 (0, 0)) from ⟨y, (HKX.out.obj s (row_lt HY.out) (by have := HSS.out; omega)).trans HY.out⟩)
            go_wp2
            go_roundw
            case rel => exact ⟨i + 1, by go_num, by omega, by omega, HXX, HS⟩
            case measure => first | (simp [intOf]; done) | (simp [intOf]; omega)
      · have iic : ¬ (i : Int) ≤ (c2 : Int) := by omega
        have dic : decide ((i : Int) ≤ (c2 : Int)) = false := decide_eq_false iic
        go_wp2
        go_end0
        exact ⟨rfl, HS.out⟩
  · have i8 : ¬ (8 : Int) ≤ (L : Int) := by omega
    have d8 : decide ((8 : Int) ≤ (L : Int)) = false := decide_eq_false i8
    clear h hL
    go_enter Tryd.func59, Tryd.ntmps59
    go_wp2
    go_end0
    exact ⟨rfl, HS0.out⟩
end Go.Proofs.YtjpkodllemoniaaDoor.Sr
