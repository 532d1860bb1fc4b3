/-
  siftDown, heapSort exactly.
-/
import Derived.Test.YtjpkodllemoniaaDoorSsB
namespace Go.Proofs.YtjpkodllemoniaaDoor.Sr
open Go.RowKit Go.Deep
set_option linter.unusedVariables false
set_option linter.unusedSimpArgs false
set_option maxHeartbeats 8000000
set_option maxRecDepth 100000
attribute [local go_sem ↓] Go.wp_at_zero Go.wp_at_succ
theorem sift_stop {hi f r : Nat} {d : Array Int} (h : hi ≤ 2 * r + 1) : Go.Sort.siftDown lt hi f r d = d := by
  unfold Go.Sort.siftDown
  rw [dif_pos h]
theorem sift_l {hi f r : Nat} {l : List Int} (h : ¬ hi ≤ 2 * r + 1) (h2 : ¬ 2 * r + 1 + 1 < hi ∨ decide (gd l (f + (2 * r + 1)) < gd l (f + (2 * r + 1) + 1)) = false) :
    Go.Sort.siftDown lt hi f r l.toArray = if decide (gd l (f + r) < gd l (f + (2 * r + 1))) = true then Go.Sort.siftDown lt hi f (2 * r + 1) (sw l (f + r) (f + (2 * r + 1))).toArray else l.toArray := by
  rw [sw_arr]
  conv => lhs; unfold Go.Sort.siftDown
  rw [dif_neg h, arr_get, arr_get, if_neg]
  · rw [arr_get, lt_def]
    cases decide (gd l (f + r) < gd l (f + (2 * r + 1))) <;> simp
  · rw [lt_def]
    rcases h2 with h2 | h2
    · simp [h2]
    · rw [h2]; simp
theorem sift_r {hi f r : Nat} {l : List Int} (h : ¬ hi ≤ 2 * r + 1) (h2 : 2 * r + 1 + 1 < hi) (h3 : decide (gd l (f + (2 * r + 1)) < gd l (f + (2 * r + 1) + 1)) = true) :
    Go.Sort.siftDown lt hi f r l.toArray = if decide (gd l (f + r) < gd l (f + (2 * r + 2))) = true then Go.Sort.siftDown lt hi f (2 * r + 2) (sw l (f + r) (f + (2 * r + 2))).toArray else l.toArray := by
  rw [sw_arr]
  conv => lhs; unfold Go.Sort.siftDown
  rw [dif_neg h, arr_get, arr_get, if_pos]
  · rw [arr_get, arr_get, lt_def]
    cases decide (gd l (f + r) < gd l (f + (2 * r + 2)))
    · simp
    · rw [dif_pos (by omega)]; simp
  · rw [lt_def, h3]
    simp [h2]
theorem sift_two {hi f r c e p q s : Nat} {l : List Int} {RR : Array Int} (hc : c = 2 * r + 1) (he : e = c + 1) (hp : p = f + c) (hq : q = p + 1) (hs : s = f + r) (h : e < hi) (hl : Go.Sort.siftDown lt hi f r l.toArray = RR) : (decide (gd l p < gd l q) = true → ((decide (gd l s < gd l q) = true → Go.Sort.siftDown lt hi f e (sw l s q).toArray = RR) ∧ (decide (gd l s < gd l q) = false → l.toArray = RR))) ∧ (decide (gd l p < gd l q) = false → ((decide (gd l s < gd l p) = true → Go.Sort.siftDown lt hi f c (sw l s p).toArray = RR) ∧ (decide (gd l s < gd l p) = false → l.toArray = RR))) := by
  subst hc he hp hq hs
  refine ⟨fun e1 => ?_, fun e1 => ?_⟩
  · rw [sift_r (by omega) h e1] at hl
    refine ⟨fun e2 => ?_, fun e2 => ?_⟩
    · rw [if_pos (show decide (gd l (f + r) < gd l (f + (2 * r + 2))) = true from e2)] at hl; exact hl
    · have e3 : ¬ decide (gd l (f + r) < gd l (f + (2 * r + 2))) = true := by rw [show f + (2 * r + 2) = f + (2 * r + 1) + 1 from rfl, e2]; decide
      rw [if_neg e3] at hl; exact hl
  · rw [sift_l (by omega) (.inr e1)] at hl
    refine ⟨fun e2 => ?_, fun e2 => ?_⟩
    · rw [if_pos e2] at hl; exact hl
    · have e3 : ¬ decide (gd l (f + r) < gd l (f + (2 * r + 1))) = true := by rw [e2]; decide
      rw [if_neg e3] at hl; exact hl
theorem sift_one {hi f r c e p s : Nat} {l : List Int} {RR : Array Int} (hc : c = 2 * r + 1) (he : e = c + 1) (hp : p = f + c) (hs : s = f + r) (h : ¬ e < hi) (h1 : c < hi) (hl : Go.Sort.siftDown lt hi f r l.toArray = RR) : ((decide (gd l s < gd l p) = true → Go.Sort.siftDown lt hi f c (sw l s p).toArray = RR) ∧ (decide (gd l s < gd l p) = false → l.toArray = RR)) := by
  subst hc he hp hs
  rw [sift_l (by omega) (.inl h)] at hl
  refine ⟨fun e2 => ?_, fun e2 => ?_⟩
  · rw [if_pos e2] at hl; exact hl
  · have e3 : ¬ decide (gd l (f + r) < gd l (f + (2 * r + 1))) = true := by rw [e2]; decide
    rw [if_neg e3] at hl; exact hl
theorem sift_ex (g cap n : Nat) (l0 : List Int) (lo hi f : Nat) (w0 : World) (h : Uz w0 g n l0) (hlo : lo ≤ n) (hfn : f + hi ≤ n) (hn : n ≤ 1152921504606846976) :
    Calls Tryd.prog 68 #[.slice (some ⟨g, 0, none⟩) n cap, .int .i64 lo, .int .i64 hi, .int .i64 f] w0 fun e w' => e = .returned (.tuple #[]) ∧ Sp w0 w' g n (fun l => l.toArray = Go.Sort.siftDown lt hi f lo l0.toArray) := by
  obtain ⟨RR, hRR⟩ : ∃ R, Go.Sort.siftDown lt hi f lo l0.toArray = R := ⟨_, rfl⟩
  have HS0 := hid (h.sp (F := fun l => Go.Sort.siftDown lt hi f lo l.toArray = RR) hRR)
  rw [hRR]
  clear h hRR
  go_enter Tryd.func68, Tryd.ntmps68
  go_upto_region 1 with fail
  go_loopw [8] (fun rv wr => ∃ r : Nat, rv = .int .i64 r ∧ r ≤ n ∧ Hid (Sp w0 wr g n (fun l => Go.Sort.siftDown lt hi f r l.toArray = RR))) (fun rv _ => hi - (intOf rv).toNat)
  case atStart => exact ⟨lo, rfl, hlo, HS0⟩
  case round =>
    obtain ⟨r, rfl, r1, HS⟩ := hrel
    obtain ⟨d, hd⟩ : ∃ d, d = 2 * r := ⟨_, rfl⟩
    obtain ⟨c, hc⟩ : ∃ c, c = d + 1 := ⟨_, rfl⟩
    obtain ⟨e, he⟩ : ∃ e, e = c + 1 := ⟨_, rfl⟩
    obtain ⟨p, hp⟩ : ∃ p, p = f + c := ⟨_, rfl⟩
    obtain ⟨q, hq⟩ : ∃ q, q = p + 1 := ⟨_, rfl⟩
    obtain ⟨s, hs⟩ : ∃ s, s = f + r := ⟨_, rfl⟩
    have wd : IntKind.i64.wrap (2 * (r : Int)) = (d : Int) := by rw [IntKind.wrap_i64]; omega
    have wc : IntKind.i64.wrap ((d : Int) + 1) = (c : Int) := by rw [IntKind.wrap_i64]; omega
    have HEQ := hid (show d = 2 * r ∧ c = d + 1 ∧ e = c + 1 ∧ p = f + c ∧ q = p + 1 ∧ s = f + r from ⟨hd, hc, he, hp, hq, hs⟩)
    by_cases hch : hi ≤ c
    · have ic : (hi : Int) ≤ (c : Int) := by omega
      have HE := hid (HS.out.mono (G := fun l => l.toArray = RR) (fun l _ hl => by rw [sift_stop (by omega)] at hl; exact hl))
      clear hd hc he hp hq hs
      go_wp2
      go_end0
      exact ⟨rfl, HE.out⟩
    · have ic : ¬ (hi : Int) ≤ (c : Int) := by omega
      have dc : decide ((hi : Int) ≤ (c : Int)) = false := decide_eq_false ic
      have HLT := hid (show c < hi ∧ r < hi from by omega)
      have hsn : s < n := by omega
      have hpn : p < n := by omega
      have wc1 : IntKind.i64.wrap ((c : Int) + 1) = (e : Int) := by rw [IntKind.wrap_i64]; omega
      have wp : IntKind.i64.wrap ((f : Int) + (c : Int)) = (p : Int) := by rw [IntKind.wrap_i64]; omega
      have wp1 : IntKind.i64.wrap ((p : Int) + 1) = (q : Int) := by rw [IntKind.wrap_i64]; omega
      have wq : IntKind.i64.wrap ((f : Int) + (e : Int)) = (q : Int) := by rw [IntKind.wrap_i64]; omega
      have ws : IntKind.i64.wrap ((f : Int) + (r : Int)) = (s : Int) := by rw [IntKind.wrap_i64]; omega
      have s0' : (0 : Int) ≤ (s : Int) := by omega
      have s2 : (s : Int) < (n : Int) := by omega
      have p0' : (0 : Int) ≤ (p : Int) := by omega
      have p2 : (p : Int) < (n : Int) := by omega
      obtain ⟨l, p1, u1, k1⟩ := HS.out
      have U1 := hid u1
      have K1 := hid k1
      obtain ⟨x1, hx1⟩ : ∃ y, gd l p = y := ⟨_, rfl⟩
      have cx1 : wr.cell? ⟨g, p, none⟩ = some (.int .u64 x1) := by rw [← hx1]; exact u1.cell hpn
      have Hx1 := hid hx1
      by_cases hce : e < hi
      · have ie : (e : Int) < (hi : Int) := by omega
        have hqn : q < n := by omega
        have q0' : (0 : Int) ≤ (q : Int) := by omega
        have q2 : (q : Int) < (n : Int) := by omega
        obtain ⟨x2, hx2⟩ : ∃ y, gd l q = y := ⟨_, rfl⟩
        have cx2 : wr.cell? ⟨g, q, none⟩ = some (.int .u64 x2) := by rw [← hx2]; exact u1.cell hqn
        have Hx2 := hid hx2
        have HB := hid (show (decide (gd l p < gd l q) = true → ((decide (gd l s < gd l q) = true → Go.Sort.siftDown lt hi f e (sw l s q).toArray = RR) ∧ (decide (gd l s < gd l q) = false → l.toArray = RR))) ∧ (decide (gd l p < gd l q) = false → ((decide (gd l s < gd l p) = true → Go.Sort.siftDown lt hi f c (sw l s p).toArray = RR) ∧ (decide (gd l s < gd l p) = false → l.toArray = RR))) from sift_two (by omega) he hp hq hs hce p1)
        rw [hx1, hx2] at HB
        have HLT := hid (show c < hi ∧ r < hi ∧ e < hi from by omega)
        clear hd hc he hp hq hs ic p1 u1 k1 hx1 hx2
        go_upto_region 3 with fail
        go_quiet (first | (go_at_call 63; with_reducible exact Calls.quiet_of_same (less_any _ _ _)))
        have U1 := hid (U1.out.same (w' := wr.drewN nq) rfl)
        have K1 := hid (K1.out.trans (Kp.drewN _ wr nq) (fun _ _ e => e))
        obtain ⟨V, hV⟩ : ∃ U, wr.drewN nq = U := ⟨_, rfl⟩
        rw [hV] at U1 K1 ⊢
        clear hV
        cases hb : decide (x1 < x2) with
        | true =>
          have HP := hid (HB.out.1 hb)
          clear hb cx1 cx2 HB
          obtain ⟨y, hy⟩ : ∃ y, gd l s = y := ⟨_, rfl⟩
          have cy : V.cell? ⟨g, s, none⟩ = some (.int .u64 y) := by rw [← hy]; exact U1.out.cell hsn
          have cz : V.cell? ⟨g, q, none⟩ = some (.int .u64 x2) := by rw [← Hx2.out]; exact U1.out.cell (by omega)
          rw [hy] at HP
          clear hy
          go_upto_region 5 with fail
          go_quiet (first | (go_at_call 63; with_reducible exact Calls.quiet_of_same (less_any _ _ _)))
          have U1 := hid (U1.out.same (w' := V.drewN nq) rfl)
          have K1 := hid (K1.out.trans (Kp.drewN _ V nq) (fun _ _ e => e))
          obtain ⟨V2, hV⟩ : ∃ U, V.drewN nq = U := ⟨_, rfl⟩
          rw [hV] at U1 K1 ⊢
          clear hV
          cases hb : decide (y < x2) with
          | false =>
            have HQ2 := hid (show Sp w0 V2 g n (fun l => l.toArray = RR) from ⟨l, HP.out.2 hb, U1.out, K1.out⟩)
            clear hb cy cz HP
            go_wp2
            try simp only [Exit.inBlock, Exit.then]
            refine bodyPost_ret (results_none rfl _ _ _) rfl ?_
            exact ⟨rfl, HQ2.out⟩
          | true =>
            have P1 := hid (HP.out.1 hb)
            clear hb cy cz HP
            have hin : s < n := hsn
            have hjn : q < n := by omega
            go_upto_region 6 with fail
            refine reg_any [53, 54, 55, 56, 57, 58, 59, 60, 61, 62, 63, 64, 65, 66, 67, 68, 69, 70, 71, 72, 73, 74] (fun X => Hid (Sp w0 X g n (fun l => Go.Sort.siftDown lt hi f e l.toArray = RR))) ?_ ?_
            · have U2 := hid (U1.out.same (w' := V2.drew) rfl)
              have K2 := hid (K1.out.trans (Kp.drew _ V2) (fun _ _ e => e))
              obtain ⟨V, hV⟩ : ∃ U, V2.drew = U := ⟨_, rfl⟩
              rw [hV] at U2 K2
              obtain ⟨xi, hxi⟩ : ∃ x, gd l s = x := ⟨_, rfl⟩
              obtain ⟨xj, hxj⟩ : ∃ x, gd l q = x := ⟨_, rfl⟩
              have ci : V.cell? ⟨g, s, none⟩ = some (.int .u64 xi) := by rw [← hxi]; exact U2.out.cell hin
              have cj : V.cell? ⟨g, q, none⟩ = some (.int .u64 xj) := by rw [← hxj]; exact U2.out.cell hjn
              have fi := U2.out.frz s
              have fj := U2.out.frz q
              have U3 := hid (U2.out.set hin xj)
              have cj3 := U3.out.cell hjn
              have fj3 := U3.out.frz q
              have HSW := hid (Sp.swap (F := fun l => Go.Sort.siftDown lt hi f e l.toArray = RR) P1.out U2.out K2.out hin hjn)
              rw [hxi, hxj] at HSW
              refine wp_region_held_drew (S := fun _ => True) (by kernel_rfl) trivial (fun _ => ?_)
              rw [hV]
              clear hV hxi hxj
              refine' wpAnyH_take (i := 0) (oi := _) (v := _) rfl (by kernel_rfl) (by kernel_rfl) (by kernel_rfl) (fun _ _ _ h => h) (Or.inl ⟨by kernel_rfl, ?_⟩) (by trivial) ?_
              rotate_left
              · (intro w hSw; go_simp; try (with_reducible rfl))
              try simp only [List.getElem_toArray, List.getElem_cons_succ, List.getElem_cons_zero, Act.put, List.setIfInBounds_toArray, List.set_cons_zero, List.set_cons_succ]
              refine' wpAnyH_take (i := 1) (oi := _) (v := _) rfl (by kernel_rfl) (by kernel_rfl) (by kernel_rfl) (fun _ _ _ h => h) (Or.inl ⟨by kernel_rfl, ?_⟩) (by trivial) ?_
              rotate_left
              · (intro w hSw; go_simp; try (with_reducible rfl))
              try simp only [List.getElem_toArray, List.getElem_cons_succ, List.getElem_cons_zero, Act.put, List.setIfInBounds_toArray, List.set_cons_zero, List.set_cons_succ]
              refine' wpAnyH_take (i := 2) (oi := _) (v := _) rfl (by kernel_rfl) (by kernel_rfl) (by kernel_rfl) (fun _ _ _ h => h) (Or.inl ⟨by kernel_rfl, ?_⟩) (by trivial) ?_
              rotate_left
              · (intro w hSw; go_simp; try (with_reducible rfl))
              try simp only [List.getElem_toArray, List.getElem_cons_succ, List.getElem_cons_zero, Act.put, List.setIfInBounds_toArray, List.set_cons_zero, List.set_cons_succ]
              refine' wpAnyH_take (i := 3) (oi := _) (v := _) rfl (by kernel_rfl) (by kernel_rfl) (by kernel_rfl) (fun _ _ _ h => h) (Or.inl ⟨by kernel_rfl, ?_⟩) (by trivial) ?_
              rotate_left
              · (intro w hSw; go_simp; try (with_reducible rfl))
              try simp only [List.getElem_toArray, List.getElem_cons_succ, List.getElem_cons_zero, Act.put, List.setIfInBounds_toArray, List.set_cons_zero, List.set_cons_succ]
              refine' wpAnyH_take (i := 4) (oi := _) (v := _) rfl (by kernel_rfl) (by kernel_rfl) (by kernel_rfl) (fun _ _ _ h => h) (Or.inl ⟨by kernel_rfl, ?_⟩) (by trivial) ?_
              rotate_left
              · (intro w hSw; go_simp; try (with_reducible rfl))
              try simp only [List.getElem_toArray, List.getElem_cons_succ, List.getElem_cons_zero, Act.put, List.setIfInBounds_toArray, List.set_cons_zero, List.set_cons_succ]
              refine' wpAnyH_take (i := 5) (oi := _) (v := _) rfl (by kernel_rfl) (by kernel_rfl) (by kernel_rfl) (fun _ _ _ h => h) (Or.inl ⟨by kernel_rfl, ?_⟩) (by trivial) ?_
              rotate_left
              · (intro w hSw; go_simp; try (with_reducible rfl))
              try simp only [List.getElem_toArray, List.getElem_cons_succ, List.getElem_cons_zero, Act.put, List.setIfInBounds_toArray, List.set_cons_zero, List.set_cons_succ]
              refine' wpAnyH_take (i := 6) (oi := _) (v := _) rfl (by kernel_rfl) (by kernel_rfl) (by kernel_rfl) (fun _ _ _ h => h) (Or.inl ⟨by kernel_rfl, ?_⟩) (by trivial) ?_
              rotate_left
              · (intro w hSw; go_simp; try (with_reducible rfl))
              try simp only [List.getElem_toArray, List.getElem_cons_succ, List.getElem_cons_zero, Act.put, List.setIfInBounds_toArray, List.set_cons_zero, List.set_cons_succ]
              refine' wpAnyH_take (i := 7) (oi := _) (v := _) rfl (by kernel_rfl) (by kernel_rfl) (by kernel_rfl) (fun _ _ _ h => h) (Or.inl ⟨by kernel_rfl, ?_⟩) (by trivial) ?_
              rotate_left
              · (intro w hSw; go_simp; try (with_reducible rfl))
              try simp only [List.getElem_toArray, List.getElem_cons_succ, List.getElem_cons_zero, Act.put, List.setIfInBounds_toArray, List.set_cons_zero, List.set_cons_succ]
              refine' wpAnyH_take (i := 8) (oi := _) (v := _) rfl (by kernel_rfl) (by kernel_rfl) (by kernel_rfl) (fun _ _ _ h => h) (Or.inl ⟨by kernel_rfl, ?_⟩) (by trivial) ?_
              rotate_left
              · (intro w hSw; go_simp; try (with_reducible rfl))
              try simp only [List.getElem_toArray, List.getElem_cons_succ, List.getElem_cons_zero, Act.put, List.setIfInBounds_toArray, List.set_cons_zero, List.set_cons_succ]
              refine' wpAnyH_take (i := 9) (oi := _) (v := _) rfl (by kernel_rfl) (by kernel_rfl) (by kernel_rfl) (fun _ _ _ h => h) (Or.inl ⟨by kernel_rfl, ?_⟩) (by trivial) ?_
              rotate_left
              · (intro w hSw; go_simp; try (with_reducible rfl))
              try simp only [List.getElem_toArray, List.getElem_cons_succ, List.getElem_cons_zero, Act.put, List.setIfInBounds_toArray, List.set_cons_zero, List.set_cons_succ]
              refine' wpAnyH_take (i := 10) (oi := _) (v := _) rfl (by kernel_rfl) (by kernel_rfl) (by kernel_rfl) (fun _ _ _ h => h) (Or.inl ⟨by kernel_rfl, ?_⟩) (by trivial) ?_
              rotate_left
              · (intro w hSw; go_simp; try (with_reducible rfl))
              try simp only [List.getElem_toArray, List.getElem_cons_succ, List.getElem_cons_zero, Act.put, List.setIfInBounds_toArray, List.set_cons_zero, List.set_cons_succ]
              refine' wpAnyH_take (i := 11) (oi := _) (v := _) rfl (by kernel_rfl) (by kernel_rfl) (by kernel_rfl) (fun _ _ _ h => h) (Or.inl ⟨by kernel_rfl, ?_⟩) (by trivial) ?_
              rotate_left
              · (intro w hSw; go_simp; try (with_reducible rfl))
              try simp only [List.getElem_toArray, List.getElem_cons_succ, List.getElem_cons_zero, Act.put, List.setIfInBounds_toArray, List.set_cons_zero, List.set_cons_succ]
              refine' wpAnyH_take (i := 12) (oi := _) (v := _) rfl (by kernel_rfl) (by kernel_rfl) (by kernel_rfl) (fun _ _ _ h => h) (Or.inl ⟨by kernel_rfl, ?_⟩) (by trivial) ?_
              rotate_left
              · (intro w hSw; go_simp; try (with_reducible rfl))
              try simp only [List.getElem_toArray, List.getElem_cons_succ, List.getElem_cons_zero, Act.put, List.setIfInBounds_toArray, List.set_cons_zero, List.set_cons_succ]
              refine' wpAnyH_take (i := 14) (oi := _) (v := _) rfl (by kernel_rfl) (by kernel_rfl) (by kernel_rfl) (fun _ _ _ h => h) (Or.inl ⟨by kernel_rfl, ?_⟩) (by trivial) ?_
              rotate_left
              · (intro w hSw; go_simp; try (with_reducible rfl))
              try simp only [List.getElem_toArray, List.getElem_cons_succ, List.getElem_cons_zero, Act.put, List.setIfInBounds_toArray, List.set_cons_zero, List.set_cons_succ]
              refine' wpAnyH_take (i := 15) (oi := _) (v := _) rfl (by kernel_rfl) (by kernel_rfl) (by kernel_rfl) (fun _ _ _ h => h) (Or.inl ⟨by kernel_rfl, ?_⟩) (by trivial) ?_
              rotate_left
              · (intro w hSw; go_simp; try (with_reducible rfl))
              try simp only [List.getElem_toArray, List.getElem_cons_succ, List.getElem_cons_zero, Act.put, List.setIfInBounds_toArray, List.set_cons_zero, List.set_cons_succ]
              refine' wpAnyH_take (i := 16) (oi := _) (v := _) rfl (by kernel_rfl) (by kernel_rfl) (by kernel_rfl) (fun _ _ _ h => h) (Or.inl ⟨by kernel_rfl, ?_⟩) (by trivial) ?_
              rotate_left
              · (intro w hSw; go_simp; try (with_reducible rfl))
              try simp only [List.getElem_toArray, List.getElem_cons_succ, List.getElem_cons_zero, Act.put, List.setIfInBounds_toArray, List.set_cons_zero, List.set_cons_succ]
              refine' wpAnyH_take (i := 17) (oi := _) (v := _) rfl (by kernel_rfl) (by kernel_rfl) (by kernel_rfl) (fun _ _ _ h => h) (Or.inl ⟨by kernel_rfl, ?_⟩) (by trivial) ?_
              rotate_left
              · (intro w hSw; go_simp; try (with_reducible rfl))
              try simp only [List.getElem_toArray, List.getElem_cons_succ, List.getElem_cons_zero, Act.put, List.setIfInBounds_toArray, List.set_cons_zero, List.set_cons_succ]
              refine' wpAnyH_take (i := 18) (oi := _) (v := _) rfl (by kernel_rfl) (by kernel_rfl) (by kernel_rfl) (fun _ _ _ h => h) (Or.inl ⟨by kernel_rfl, ?_⟩) (by trivial) ?_
              rotate_left
              · (intro w hSw; go_simp; try (with_reducible rfl))
              try simp only [List.getElem_toArray, List.getElem_cons_succ, List.getElem_cons_zero, Act.put, List.setIfInBounds_toArray, List.set_cons_zero, List.set_cons_succ]
              refine wpAnyH_ready (rs := [13, 19]) (by kernel_rfl) (by simp) ?_
              refine (AllReadyH.cons (o := _) rfl (fun K hK => ?_) (AllReadyH.cons (o := _) rfl (fun K hK => ?_) AllReadyH.nil))
              · go_simp
                refine hK.out _ _ trivial (fun _ => ?_)
                clear hK K
                try simp only [List.getElem_toArray, List.getElem_cons_succ, List.getElem_cons_zero, Act.put, List.setIfInBounds_toArray, List.set_cons_zero, List.set_cons_succ]
                refine wpAnyH_ready (rs := [19]) (by kernel_rfl) (by simp) ?_
                refine (AllReadyH.cons (o := _) rfl (fun K hK => ?_) AllReadyH.nil)
                go_simp
                refine hK.out _ _ trivial (fun _ => ?_)
                clear hK K
                try simp only [List.getElem_toArray, List.getElem_cons_succ, List.getElem_cons_zero, Act.put, List.setIfInBounds_toArray, List.set_cons_zero, List.set_cons_succ]
                refine' wpAnyH_take (i := 20) (oi := _) (v := _) rfl (by kernel_rfl) (by kernel_rfl) (by kernel_rfl) (fun _ _ _ h => h) (Or.inl ⟨by kernel_rfl, ?_⟩) (by trivial) ?_
                rotate_left
                · (intro w hSw; go_simp; try (with_reducible rfl))
                try simp only [List.getElem_toArray, List.getElem_cons_succ, List.getElem_cons_zero, Act.put, List.setIfInBounds_toArray, List.set_cons_zero, List.set_cons_succ]
                refine wpAnyH_ready (rs := [21]) (by kernel_rfl) (by simp) ?_
                refine (AllReadyH.cons (o := _) rfl (fun K hK => ?_) AllReadyH.nil)
                go_simp
                refine hK.out _ _ trivial (fun _ => ?_)
                clear hK K
                try simp only [List.getElem_toArray, List.getElem_cons_succ, List.getElem_cons_zero, Act.put, List.setIfInBounds_toArray, List.set_cons_zero, List.set_cons_succ]
                refine' wpAnyH_take (i := 22) (oi := _) (v := _) rfl (by kernel_rfl) (by kernel_rfl) (by kernel_rfl) (fun _ _ _ h => h) (Or.inl ⟨by kernel_rfl, ?_⟩) (by trivial) ?_
                rotate_left
                · (intro w hSw; go_simp; try (with_reducible rfl))
                try simp only [List.getElem_toArray, List.getElem_cons_succ, List.getElem_cons_zero, Act.put, List.setIfInBounds_toArray, List.set_cons_zero, List.set_cons_succ]
                refine wpAnyH_ready (rs := [23]) (by kernel_rfl) (by simp) ?_
                refine (AllReadyH.cons (o := _) rfl (fun K hK => ?_) AllReadyH.nil)
                go_simp
                refine hK.out _ _ trivial (fun _ => ?_)
                clear hK K
                try simp only [List.getElem_toArray, List.getElem_cons_succ, List.getElem_cons_zero, Act.put, List.setIfInBounds_toArray, List.set_cons_zero, List.set_cons_succ]
                refine wpAnyH_done (by kernel_rfl) ?_ _
                exact ⟨by kernel_rfl, HSW⟩
              · go_simp
                refine hK.out _ _ trivial (fun _ => ?_)
                clear hK K
                try simp only [List.getElem_toArray, List.getElem_cons_succ, List.getElem_cons_zero, Act.put, List.setIfInBounds_toArray, List.set_cons_zero, List.set_cons_succ]
                refine wpAnyH_ready (rs := [13]) (by kernel_rfl) (by simp) ?_
                refine (AllReadyH.cons (o := _) rfl (fun K hK => ?_) AllReadyH.nil)
                go_simp
                refine hK.out _ _ trivial (fun _ => ?_)
                clear hK K
                try simp only [List.getElem_toArray, List.getElem_cons_succ, List.getElem_cons_zero, Act.put, List.setIfInBounds_toArray, List.set_cons_zero, List.set_cons_succ]
                refine' wpAnyH_take (i := 20) (oi := _) (v := _) rfl (by kernel_rfl) (by kernel_rfl) (by kernel_rfl) (fun _ _ _ h => h) (Or.inl ⟨by kernel_rfl, ?_⟩) (by trivial) ?_
                rotate_left
                · (intro w hSw; go_simp; try (with_reducible rfl))
                try simp only [List.getElem_toArray, List.getElem_cons_succ, List.getElem_cons_zero, Act.put, List.setIfInBounds_toArray, List.set_cons_zero, List.set_cons_succ]
                refine wpAnyH_ready (rs := [21]) (by kernel_rfl) (by simp) ?_
                refine (AllReadyH.cons (o := _) rfl (fun K hK => ?_) AllReadyH.nil)
                go_simp
                refine hK.out _ _ trivial (fun _ => ?_)
                clear hK K
                try simp only [List.getElem_toArray, List.getElem_cons_succ, List.getElem_cons_zero, Act.put, List.setIfInBounds_toArray, List.set_cons_zero, List.set_cons_succ]
                refine' wpAnyH_take (i := 22) (oi := _) (v := _) rfl (by kernel_rfl) (by kernel_rfl) (by kernel_rfl) (fun _ _ _ h => h) (Or.inl ⟨by kernel_rfl, ?_⟩) (by trivial) ?_
                rotate_left
                · (intro w hSw; go_simp; try (with_reducible rfl))
                try simp only [List.getElem_toArray, List.getElem_cons_succ, List.getElem_cons_zero, Act.put, List.setIfInBounds_toArray, List.set_cons_zero, List.set_cons_succ]
                refine wpAnyH_ready (rs := [23]) (by kernel_rfl) (by simp) ?_
                refine (AllReadyH.cons (o := _) rfl (fun K hK => ?_) AllReadyH.nil)
                go_simp
                refine hK.out _ _ trivial (fun _ => ?_)
                clear hK K
                try simp only [List.getElem_toArray, List.getElem_cons_succ, List.getElem_cons_zero, Act.put, List.setIfInBounds_toArray, List.set_cons_zero, List.set_cons_succ]
                refine wpAnyH_done (by kernel_rfl) ?_ _
                exact ⟨by kernel_rfl, HSW⟩
            · intro t X HS
              simp only [puts, List.foldl_cons, List.foldl_nil, Act.put, List.setIfInBounds_toArray, List.set_cons_zero, List.set_cons_succ]
              go_wp2
              go_roundw
              case rel => exact ⟨e, by go_num, by have := HLT.out; omega, HS⟩
              case measure => have := HLT.out; have := HEQ.out; simp [intOf]; omega
        | false =>
          have HP := hid (HB.out.2 hb)
          clear hb cx1 cx2 HB
          obtain ⟨y, hy⟩ : ∃ y, gd l s = y := ⟨_, rfl⟩
          have cy : V.cell? ⟨g, s, none⟩ = some (.int .u64 y) := by rw [← hy]; exact U1.out.cell hsn
          have cz : V.cell? ⟨g, p, none⟩ = some (.int .u64 x1) := by rw [← Hx1.out]; exact U1.out.cell (by omega)
          rw [hy] at HP
          clear hy
          go_upto_region 5 with fail
          go_quiet (first | (go_at_call 63; with_reducible exact Calls.quiet_of_same (less_any _ _ _)))
          have U1 := hid (U1.out.same (w' := V.drewN nq) rfl)
          have K1 := hid (K1.out.trans (Kp.drewN _ V nq) (fun _ _ e => e))
          obtain ⟨V2, hV⟩ : ∃ U, V.drewN nq = U := ⟨_, rfl⟩
          rw [hV] at U1 K1 ⊢
          clear hV
          cases hb : decide (y < x1) with
          | false =>
            have HQ2 := hid (show Sp w0 V2 g n (fun l => l.toArray = RR) from ⟨l, HP.out.2 hb, U1.out, K1.out⟩)
            clear hb cy cz HP
            go_wp2
            try simp only [Exit.inBlock, Exit.then]
            refine bodyPost_ret (results_none rfl _ _ _) rfl ?_
            exact ⟨rfl, HQ2.out⟩
          | true =>
            have P1 := hid (HP.out.1 hb)
            clear hb cy cz HP
            have hin : s < n := hsn
            have hjn : p < n := by omega
            go_upto_region 6 with fail
            refine reg_any [53, 54, 55, 56, 57, 58, 59, 60, 61, 62, 63, 64, 65, 66, 67, 68, 69, 70, 71, 72, 73, 74] (fun X => Hid (Sp w0 X g n (fun l => Go.Sort.siftDown lt hi f c l.toArray = RR))) ?_ ?_
            · have U2 := hid (U1.out.same (w' := V2.drew) rfl)
              have K2 := hid (K1.out.trans (Kp.drew _ V2) (fun _ _ e => e))
              obtain ⟨V, hV⟩ : ∃ U, V2.drew = U := ⟨_, rfl⟩
              rw [hV] at U2 K2
              obtain ⟨xi, hxi⟩ : ∃ x, gd l s = x := ⟨_, rfl⟩
              obtain ⟨xj, hxj⟩ : ∃ x, gd l p = x := ⟨_, rfl⟩
              have ci : V.cell? ⟨g, s, none⟩ = some (.int .u64 xi) := by rw [← hxi]; exact U2.out.cell hin
              have cj : V.cell? ⟨g, p, none⟩ = some (.int .u64 xj) := by rw [← hxj]; exact U2.out.cell hjn
              have fi := U2.out.frz s
              have fj := U2.out.frz p
              have U3 := hid (U2.out.set hin xj)
              have cj3 := U3.out.cell hjn
              have fj3 := U3.out.frz p
              have HSW := hid (Sp.swap (F := fun l => Go.Sort.siftDown lt hi f c l.toArray = RR) P1.out U2.out K2.out hin hjn)
              rw [hxi, hxj] at HSW
              refine wp_region_held_drew (S := fun _ => True) (by kernel_rfl) trivial (fun _ => ?_)
              rw [hV]
              clear hV hxi hxj
              refine' wpAnyH_take (i := 0) (oi := _) (v := _) rfl (by kernel_rfl) (by kernel_rfl) (by kernel_rfl) (fun _ _ _ h => h) (Or.inl ⟨by kernel_rfl, ?_⟩) (by trivial) ?_
              rotate_left
              · (intro w hSw; go_simp; try (with_reducible rfl))
              try simp only [List.getElem_toArray, List.getElem_cons_succ, List.getElem_cons_zero, Act.put, List.setIfInBounds_toArray, List.set_cons_zero, List.set_cons_succ]
              refine' wpAnyH_take (i := 1) (oi := _) (v := _) rfl (by kernel_rfl) (by kernel_rfl) (by kernel_rfl) (fun _ _ _ h => h) (Or.inl ⟨by kernel_rfl, ?_⟩) (by trivial) ?_
              rotate_left
              · (intro w hSw; go_simp; try (with_reducible rfl))
              try simp only [List.getElem_toArray, List.getElem_cons_succ, List.getElem_cons_zero, Act.put, List.setIfInBounds_toArray, List.set_cons_zero, List.set_cons_succ]
              refine' wpAnyH_take (i := 2) (oi := _) (v := _) rfl (by kernel_rfl) (by kernel_rfl) (by kernel_rfl) (fun _ _ _ h => h) (Or.inl ⟨by kernel_rfl, ?_⟩) (by trivial) ?_
              rotate_left
              · (intro w hSw; go_simp; try (with_reducible rfl))
              try simp only [List.getElem_toArray, List.getElem_cons_succ, List.getElem_cons_zero, Act.put, List.setIfInBounds_toArray, List.set_cons_zero, List.set_cons_succ]
              refine' wpAnyH_take (i := 3) (oi := _) (v := _) rfl (by kernel_rfl) (by kernel_rfl) (by kernel_rfl) (fun _ _ _ h => h) (Or.inl ⟨by kernel_rfl, ?_⟩) (by trivial) ?_
              rotate_left
              · (intro w hSw; go_simp; try (with_reducible rfl))
              try simp only [List.getElem_toArray, List.getElem_cons_succ, List.getElem_cons_zero, Act.put, List.setIfInBounds_toArray, List.set_cons_zero, List.set_cons_succ]
              refine' wpAnyH_take (i := 4) (oi := _) (v := _) rfl (by kernel_rfl) (by kernel_rfl) (by kernel_rfl) (fun _ _ _ h => h) (Or.inl ⟨by kernel_rfl, ?_⟩) (by trivial) ?_
              rotate_left
              · (intro w hSw; go_simp; try (with_reducible rfl))
              try simp only [List.getElem_toArray, List.getElem_cons_succ, List.getElem_cons_zero, Act.put, List.setIfInBounds_toArray, List.set_cons_zero, List.set_cons_succ]
              refine' wpAnyH_take (i := 5) (oi := _) (v := _) rfl (by kernel_rfl) (by kernel_rfl) (by kernel_rfl) (fun _ _ _ h => h) (Or.inl ⟨by kernel_rfl, ?_⟩) (by trivial) ?_
              rotate_left
              · (intro w hSw; go_simp; try (with_reducible rfl))
              try simp only [List.getElem_toArray, List.getElem_cons_succ, List.getElem_cons_zero, Act.put, List.setIfInBounds_toArray, List.set_cons_zero, List.set_cons_succ]
              refine' wpAnyH_take (i := 6) (oi := _) (v := _) rfl (by kernel_rfl) (by kernel_rfl) (by kernel_rfl) (fun _ _ _ h => h) (Or.inl ⟨by kernel_rfl, ?_⟩) (by trivial) ?_
              rotate_left
              · (intro w hSw; go_simp; try (with_reducible rfl))
              try simp only [List.getElem_toArray, List.getElem_cons_succ, List.getElem_cons_zero, Act.put, List.setIfInBounds_toArray, List.set_cons_zero, List.set_cons_succ]
              refine' wpAnyH_take (i := 7) (oi := _) (v := _) rfl (by kernel_rfl) (by kernel_rfl) (by kernel_rfl) (fun _ _ _ h => h) (Or.inl ⟨by kernel_rfl, ?_⟩) (by trivial) ?_
              rotate_left
              · (intro w hSw; go_simp; try (with_reducible rfl))
              try simp only [List.getElem_toArray, List.getElem_cons_succ, List.getElem_cons_zero, Act.put, List.setIfInBounds_toArray, List.set_cons_zero, List.set_cons_succ]
              refine' wpAnyH_take (i := 8) (oi := _) (v := _) rfl (by kernel_rfl) (by kernel_rfl) (by kernel_rfl) (fun _ _ _ h => h) (Or.inl ⟨by kernel_rfl, ?_⟩) (by trivial) ?_
              rotate_left
              · (intro w hSw; go_simp; try (with_reducible rfl))
              try simp only [List.getElem_toArray, List.getElem_cons_succ, List.getElem_cons_zero, Act.put, List.setIfInBounds_toArray, List.set_cons_zero, List.set_cons_succ]
              refine' wpAnyH_take (i := 9) (oi := _) (v := _) rfl (by kernel_rfl) (by kernel_rfl) (by kernel_rfl) (fun _ _ _ h => h) (Or.inl ⟨by kernel_rfl, ?_⟩) (by trivial) ?_
              rotate_left
              · (intro w hSw; go_simp; try (with_reducible rfl))
              try simp only [List.getElem_toArray, List.getElem_cons_succ, List.getElem_cons_zero, Act.put, List.setIfInBounds_toArray, List.set_cons_zero, List.set_cons_succ]
              refine' wpAnyH_take (i := 10) (oi := _) (v := _) rfl (by kernel_rfl) (by kernel_rfl) (by kernel_rfl) (fun _ _ _ h => h) (Or.inl ⟨by kernel_rfl, ?_⟩) (by trivial) ?_
              rotate_left
              · (intro w hSw; go_simp; try (with_reducible rfl))
              try simp only [List.getElem_toArray, List.getElem_cons_succ, List.getElem_cons_zero, Act.put, List.setIfInBounds_toArray, List.set_cons_zero, List.set_cons_succ]
              refine' wpAnyH_take (i := 11) (oi := _) (v := _) rfl (by kernel_rfl) (by kernel_rfl) (by kernel_rfl) (fun _ _ _ h => h) (Or.inl ⟨by kernel_rfl, ?_⟩) (by trivial) ?_
              rotate_left
              · (intro w hSw; go_simp; try (with_reducible rfl))
              try simp only [List.getElem_toArray, List.getElem_cons_succ, List.getElem_cons_zero, Act.put, List.setIfInBounds_toArray, List.set_cons_zero, List.set_cons_succ]
              refine' wpAnyH_take (i := 12) (oi := _) (v := _) rfl (by kernel_rfl) (by kernel_rfl) (by kernel_rfl) (fun _ _ _ h => h) (Or.inl ⟨by kernel_rfl, ?_⟩) (by trivial) ?_
              rotate_left
              · (intro w hSw; go_simp; try (with_reducible rfl))
              try simp only [List.getElem_toArray, List.getElem_cons_succ, List.getElem_cons_zero, Act.put, List.setIfInBounds_toArray, List.set_cons_zero, List.set_cons_succ]
              refine' wpAnyH_take (i := 14) (oi := _) (v := _) rfl (by kernel_rfl) (by kernel_rfl) (by kernel_rfl) (fun _ _ _ h => h) (Or.inl ⟨by kernel_rfl, ?_⟩) (by trivial) ?_
              rotate_left
              · (intro w hSw; go_simp; try (with_reducible rfl))
              try simp only [List.getElem_toArray, List.getElem_cons_succ, List.getElem_cons_zero, Act.put, List.setIfInBounds_toArray, List.set_cons_zero, List.set_cons_succ]
              refine' wpAnyH_take (i := 15) (oi := _) (v := _) rfl (by kernel_rfl) (by kernel_rfl) (by kernel_rfl) (fun _ _ _ h => h) (Or.inl ⟨by kernel_rfl, ?_⟩) (by trivial) ?_
              rotate_left
              · (intro w hSw; go_simp; try (with_reducible rfl))
              try simp only [List.getElem_toArray, List.getElem_cons_succ, List.getElem_cons_zero, Act.put, List.setIfInBounds_toArray, List.set_cons_zero, List.set_cons_succ]
              refine' wpAnyH_take (i := 16) (oi := _) (v := _) rfl (by kernel_rfl) (by kernel_rfl) (by kernel_rfl) (fun _ _ _ h => h) (Or.inl ⟨by kernel_rfl, ?_⟩) (by trivial) ?_
              rotate_left
              · (intro w hSw; go_simp; try (with_reducible rfl))
              try simp only [List.getElem_toArray, List.getElem_cons_succ, List.getElem_cons_zero, Act.put, List.setIfInBounds_toArray, List.set_cons_zero, List.set_cons_succ]
              refine' wpAnyH_take (i := 17) (oi := _) (v := _) rfl (by kernel_rfl) (by kernel_rfl) (by kernel_rfl) (fun _ _ _ h => h) (Or.inl ⟨by kernel_rfl, ?_⟩) (by trivial) ?_
              rotate_left
              · (intro w hSw; go_simp; try (with_reducible rfl))
              try simp only [List.getElem_toArray, List.getElem_cons_succ, List.getElem_cons_zero, Act.put, List.setIfInBounds_toArray, List.set_cons_zero, List.set_cons_succ]
              refine' wpAnyH_take (i := 18) (oi := _) (v := _) rfl (by kernel_rfl) (by kernel_rfl) (by kernel_rfl) (fun _ _ _ h => h) (Or.inl ⟨by kernel_rfl, ?_⟩) (by trivial) ?_
              rotate_left
              · (intro w hSw; go_simp; try (with_reducible rfl))
              try simp only [List.getElem_toArray, List.getElem_cons_succ, List.getElem_cons_zero, Act.put, List.setIfInBounds_toArray, List.set_cons_zero, List.set_cons_succ]
              refine wpAnyH_ready (rs := [13, 19]) (by kernel_rfl) (by simp) ?_
              refine (AllReadyH.cons (o := _) rfl (fun K hK => ?_) (AllReadyH.cons (o := _) rfl (fun K hK => ?_) AllReadyH.nil))
              · go_simp
                refine hK.out _ _ trivial (fun _ => ?_)
                clear hK K
                try simp only [List.getElem_toArray, List.getElem_cons_succ, List.getElem_cons_zero, Act.put, List.setIfInBounds_toArray, List.set_cons_zero, List.set_cons_succ]
                refine wpAnyH_ready (rs := [19]) (by kernel_rfl) (by simp) ?_
                refine (AllReadyH.cons (o := _) rfl (fun K hK => ?_) AllReadyH.nil)
                go_simp
                refine hK.out _ _ trivial (fun _ => ?_)
                clear hK K
                try simp only [List.getElem_toArray, List.getElem_cons_succ, List.getElem_cons_zero, Act.put, List.setIfInBounds_toArray, List.set_cons_zero, List.set_cons_succ]
                refine' wpAnyH_take (i := 20) (oi := _) (v := _) rfl (by kernel_rfl) (by kernel_rfl) (by kernel_rfl) (fun _ _ _ h => h) (Or.inl ⟨by kernel_rfl, ?_⟩) (by trivial) ?_
                rotate_left
                · (intro w hSw; go_simp; try (with_reducible rfl))
                try simp only [List.getElem_toArray, List.getElem_cons_succ, List.getElem_cons_zero, Act.put, List.setIfInBounds_toArray, List.set_cons_zero, List.set_cons_succ]
                refine wpAnyH_ready (rs := [21]) (by kernel_rfl) (by simp) ?_
                refine (AllReadyH.cons (o := _) rfl (fun K hK => ?_) AllReadyH.nil)
                go_simp
                refine hK.out _ _ trivial (fun _ => ?_)
                clear hK K
                try simp only [List.getElem_toArray, List.getElem_cons_succ, List.getElem_cons_zero, Act.put, List.setIfInBounds_toArray, List.set_cons_zero, List.set_cons_succ]
                refine' wpAnyH_take (i := 22) (oi := _) (v := _) rfl (by kernel_rfl) (by kernel_rfl) (by kernel_rfl) (fun _ _ _ h => h) (Or.inl ⟨by kernel_rfl, ?_⟩) (by trivial) ?_
                rotate_left
                · (intro w hSw; go_simp; try (with_reducible rfl))
                try simp only [List.getElem_toArray, List.getElem_cons_succ, List.getElem_cons_zero, Act.put, List.setIfInBounds_toArray, List.set_cons_zero, List.set_cons_succ]
                refine wpAnyH_ready (rs := [23]) (by kernel_rfl) (by simp) ?_
                refine (AllReadyH.cons (o := _) rfl (fun K hK => ?_) AllReadyH.nil)
                go_simp
                refine hK.out _ _ trivial (fun _ => ?_)
                clear hK K
                try simp only [List.getElem_toArray, List.getElem_cons_succ, List.getElem_cons_zero, Act.put, List.setIfInBounds_toArray, List.set_cons_zero, List.set_cons_succ]
                refine wpAnyH_done (by kernel_rfl) ?_ _
                exact ⟨by kernel_rfl, HSW⟩
              · go_simp
                refine hK.out _ _ trivial (fun _ => ?_)
                clear hK K
                try simp only [List.getElem_toArray, List.getElem_cons_succ, List.getElem_cons_zero, Act.put, List.setIfInBounds_toArray, List.set_cons_zero, List.set_cons_succ]
                refine wpAnyH_ready (rs := [13]) (by kernel_rfl) (by simp) ?_
                refine (AllReadyH.cons (o := _) rfl (fun K hK => ?_) AllReadyH.nil)
                go_simp
                refine hK.out _ _ trivial (fun _ => ?_)
                clear hK K
                try simp only [List.getElem_toArray, List.getElem_cons_succ, List.getElem_cons_zero, Act.put, List.setIfInBounds_toArray, List.set_cons_zero, List.set_cons_succ]
                refine' wpAnyH_take (i := 20) (oi := _) (v := _) rfl (by kernel_rfl) (by kernel_rfl) (by kernel_rfl) (fun _ _ _ h => h) (Or.inl ⟨by kernel_rfl, ?_⟩) (by trivial) ?_
                rotate_left
                · (intro w hSw; go_simp; try (with_reducible rfl))
                try simp only [List.getElem_toArray, List.getElem_cons_succ, List.getElem_cons_zero, Act.put, List.setIfInBounds_toArray, List.set_cons_zero, List.set_cons_succ]
                refine wpAnyH_ready (rs := [21]) (by kernel_rfl) (by simp) ?_
                refine (AllReadyH.cons (o := _) rfl (fun K hK => ?_) AllReadyH.nil)
                go_simp
                refine hK.out _ _ trivial (fun _ => ?_)
                clear hK K
                try simp only [List.getElem_toArray, List.getElem_cons_succ, List.getElem_cons_zero, Act.put, List.setIfInBounds_toArray, List.set_cons_zero, List.set_cons_succ]
                refine' wpAnyH_take (i := 22) (oi := _) (v := _) rfl (by kernel_rfl) (by kernel_rfl) (by kernel_rfl) (fun _ _ _ h => h) (Or.inl ⟨by kernel_rfl, ?_⟩) (by trivial) ?_
                rotate_left
                · (intro w hSw; go_simp; try (with_reducible rfl))
                try simp only [List.getElem_toArray, List.getElem_cons_succ, List.getElem_cons_zero, Act.put, List.setIfInBounds_toArray, List.set_cons_zero, List.set_cons_succ]
                refine wpAnyH_ready (rs := [23]) (by kernel_rfl) (by simp) ?_
                refine (AllReadyH.cons (o := _) rfl (fun K hK => ?_) AllReadyH.nil)
                go_simp
                refine hK.out _ _ trivial (fun _ => ?_)
                clear hK K
                try simp only [List.getElem_toArray, List.getElem_cons_succ, List.getElem_cons_zero, Act.put, List.setIfInBounds_toArray, List.set_cons_zero, List.set_cons_succ]
                refine wpAnyH_done (by kernel_rfl) ?_ _
                exact ⟨by kernel_rfl, HSW⟩
            · intro t X HS
              simp only [puts, List.foldl_cons, List.foldl_nil, Act.put, List.setIfInBounds_toArray, List.set_cons_zero, List.set_cons_succ]
              go_wp2
              go_roundw
              case rel => exact ⟨c, by go_num, by have := HLT.out; omega, HS⟩
              case measure => have := HLT.out; have := HEQ.out; simp [intOf]; omega
      · have ie : ¬ (e : Int) < (hi : Int) := by omega
        have de : decide ((e : Int) < (hi : Int)) = false := decide_eq_false ie
        have HP := hid (show ((decide (gd l s < gd l p) = true → Go.Sort.siftDown lt hi f c (sw l s p).toArray = RR) ∧ (decide (gd l s < gd l p) = false → l.toArray = RR)) from sift_one (by omega) he hp hs hce (by omega) p1)
        rw [hx1] at HP
        clear hd hc he hp hq hs ic p1 u1 k1 hx1 ie
        go_upto_region 3 with fail
        go_quiet (first | (go_at_call 63; with_reducible exact Calls.quiet_of_same (less_any _ _ _)))
        have U1 := hid (U1.out.same (w' := wr.drewN nq) rfl)
        have K1 := hid (K1.out.trans (Kp.drewN _ wr nq) (fun _ _ e => e))
        obtain ⟨V, hV⟩ : ∃ U, wr.drewN nq = U := ⟨_, rfl⟩
        rw [hV] at U1 K1 ⊢
        clear hV
        clear cx1
        obtain ⟨y, hy⟩ : ∃ y, gd l s = y := ⟨_, rfl⟩
        have cy : V.cell? ⟨g, s, none⟩ = some (.int .u64 y) := by rw [← hy]; exact U1.out.cell hsn
        have cz : V.cell? ⟨g, p, none⟩ = some (.int .u64 x1) := by rw [← Hx1.out]; exact U1.out.cell (by omega)
        rw [hy] at HP
        clear hy
        go_upto_region 5 with fail
        go_quiet (first | (go_at_call 63; with_reducible exact Calls.quiet_of_same (less_any _ _ _)))
        have U1 := hid (U1.out.same (w' := V.drewN nq) rfl)
        have K1 := hid (K1.out.trans (Kp.drewN _ V nq) (fun _ _ e => e))
        obtain ⟨V2, hV⟩ : ∃ U, V.drewN nq = U := ⟨_, rfl⟩
        rw [hV] at U1 K1 ⊢
        clear hV
        cases hb : decide (y < x1) with
        | false =>
          have HQ2 := hid (show Sp w0 V2 g n (fun l => l.toArray = RR) from ⟨l, HP.out.2 hb, U1.out, K1.out⟩)
          clear hb cy cz HP
          go_wp2
          try simp only [Exit.inBlock, Exit.then]
          refine bodyPost_ret (results_none rfl _ _ _) rfl ?_
          exact ⟨rfl, HQ2.out⟩
        | true =>
          have P1 := hid (HP.out.1 hb)
          clear hb cy cz HP
          have hin : s < n := hsn
          have hjn : p < n := by omega
          go_upto_region 6 with fail
          refine reg_any [53, 54, 55, 56, 57, 58, 59, 60, 61, 62, 63, 64, 65, 66, 67, 68, 69, 70, 71, 72, 73, 74] (fun X => Hid (Sp w0 X g n (fun l => Go.Sort.siftDown lt hi f c l.toArray = RR))) ?_ ?_
          · have U2 := hid (U1.out.same (w' := V2.drew) rfl)
            have K2 := hid (K1.out.trans (Kp.drew _ V2) (fun _ _ e => e))
            obtain ⟨V, hV⟩ : ∃ U, V2.drew = U := ⟨_, rfl⟩
            rw [hV] at U2 K2
            obtain ⟨xi, hxi⟩ : ∃ x, gd l s = x := ⟨_, rfl⟩
            obtain ⟨xj, hxj⟩ : ∃ x, gd l p = x := ⟨_, rfl⟩
            have ci : V.cell? ⟨g, s, none⟩ = some (.int .u64 xi) := by rw [← hxi]; exact U2.out.cell hin
            have cj : V.cell? ⟨g, p, none⟩ = some (.int .u64 xj) := by rw [← hxj]; exact U2.out.cell hjn
            have fi := U2.out.frz s
            have fj := U2.out.frz p
            have U3 := hid (U2.out.set hin xj)
            have cj3 := U3.out.cell hjn
            have fj3 := U3.out.frz p
            have HSW := hid (Sp.swap (F := fun l => Go.Sort.siftDown lt hi f c l.toArray = RR) P1.out U2.out K2.out hin hjn)
            rw [hxi, hxj] at HSW
            refine wp_region_held_drew (S := fun _ => True) (by kernel_rfl) trivial (fun _ => ?_)
            rw [hV]
            clear hV hxi hxj
            refine' wpAnyH_take (i := 0) (oi := _) (v := _) rfl (by kernel_rfl) (by kernel_rfl) (by kernel_rfl) (fun _ _ _ h => h) (Or.inl ⟨by kernel_rfl, ?_⟩) (by trivial) ?_
            rotate_left
            · (intro w hSw; go_simp; try (with_reducible rfl))
            try simp only [List.getElem_toArray, List.getElem_cons_succ, List.getElem_cons_zero, Act.put, List.setIfInBounds_toArray, List.set_cons_zero, List.set_cons_succ]
            refine' wpAnyH_take (i := 1) (oi := _) (v := _) rfl (by kernel_rfl) (by kernel_rfl) (by kernel_rfl) (fun _ _ _ h => h) (Or.inl ⟨by kernel_rfl, ?_⟩) (by trivial) ?_
            rotate_left
            · (intro w hSw; go_simp; try (with_reducible rfl))
            try simp only [List.getElem_toArray, List.getElem_cons_succ, List.getElem_cons_zero, Act.put, List.setIfInBounds_toArray, List.set_cons_zero, List.set_cons_succ]
            refine' wpAnyH_take (i := 2) (oi := _) (v := _) rfl (by kernel_rfl) (by kernel_rfl) (by kernel_rfl) (fun _ _ _ h => h) (Or.inl ⟨by kernel_rfl, ?_⟩) (by trivial) ?_
            rotate_left
            · (intro w hSw; go_simp; try (with_reducible rfl))
            try simp only [List.getElem_toArray, List.getElem_cons_succ, List.getElem_cons_zero, Act.put, List.setIfInBounds_toArray, List.set_cons_zero, List.set_cons_succ]
            refine' wpAnyH_take (i := 3) (oi := _) (v := _) rfl (by kernel_rfl) (by kernel_rfl) (by kernel_rfl) (fun _ _ _ h => h) (Or.inl ⟨by kernel_rfl, ?_⟩) (by trivial) ?_
            rotate_left
            · (intro w hSw; go_simp; try (with_reducible rfl))
            try simp only [List.getElem_toArray, List.getElem_cons_succ, List.getElem_cons_zero, Act.put, List.setIfInBounds_toArray, List.set_cons_zero, List.set_cons_succ]
            refine' wpAnyH_take (i := 4) (oi := _) (v := _) rfl (by kernel_rfl) (by kernel_rfl) (by kernel_rfl) (fun _ _ _ h => h) (Or.inl ⟨by kernel_rfl, ?_⟩) (by trivial) ?_
            rotate_left
            · (intro w hSw; go_simp; try (with_reducible rfl))
            try simp only [List.getElem_toArray, List.getElem_cons_succ, List.getElem_cons_zero, Act.put, List.setIfInBounds_toArray, List.set_cons_zero, List.set_cons_succ]
            refine' wpAnyH_take (i := 5) (oi := _) (v := _) rfl (by kernel_rfl) (by kernel_rfl) (by kernel_rfl) (fun _ _ _ h => h) (Or.inl ⟨by kernel_rfl, ?_⟩) (by trivial) ?_
            rotate_left
            · (intro w hSw; go_simp; try (with_reducible rfl))
            try simp only [List.getElem_toArray, List.getElem_cons_succ, List.getElem_cons_zero, Act.put, List.setIfInBounds_toArray, List.set_cons_zero, List.set_cons_succ]
            refine' wpAnyH_take (i := 6) (oi := _) (v := _) rfl (by kernel_rfl) (by kernel_rfl) (by kernel_rfl) (fun _ _ _ h => h) (Or.inl ⟨by kernel_rfl, ?_⟩) (by trivial) ?_
            rotate_left
            · (intro w hSw; go_simp; try (with_reducible rfl))
            try simp only [List.getElem_toArray, List.getElem_cons_succ, List.getElem_cons_zero, Act.put, List.setIfInBounds_toArray, List.set_cons_zero, List.set_cons_succ]
            refine' wpAnyH_take (i := 7) (oi := _) (v := _) rfl (by kernel_rfl) (by kernel_rfl) (by kernel_rfl) (fun _ _ _ h => h) (Or.inl ⟨by kernel_rfl, ?_⟩) (by trivial) ?_
            rotate_left
            · (intro w hSw; go_simp; try (with_reducible rfl))
            try simp only [List.getElem_toArray, List.getElem_cons_succ, List.getElem_cons_zero, Act.put, List.setIfInBounds_toArray, List.set_cons_zero, List.set_cons_succ]
            refine' wpAnyH_take (i := 8) (oi := _) (v := _) rfl (by kernel_rfl) (by kernel_rfl) (by kernel_rfl) (fun _ _ _ h => h) (Or.inl ⟨by kernel_rfl, ?_⟩) (by trivial) ?_
            rotate_left
            · (intro w hSw; go_simp; try (with_reducible rfl))
            try simp only [List.getElem_toArray, List.getElem_cons_succ, List.getElem_cons_zero, Act.put, List.setIfInBounds_toArray, List.set_cons_zero, List.set_cons_succ]
            refine' wpAnyH_take (i := 9) (oi := _) (v := _) rfl (by kernel_rfl) (by kernel_rfl) (by kernel_rfl) (fun _ _ _ h => h) (Or.inl ⟨by kernel_rfl, ?_⟩) (by trivial) ?_
            rotate_left
            · (intro w hSw; go_simp; try (with_reducible rfl))
            try simp only [List.getElem_toArray, List.getElem_cons_succ, List.getElem_cons_zero, Act.put, List.setIfInBounds_toArray, List.set_cons_zero, List.set_cons_succ]
            refine' wpAnyH_take (i := 10) (oi := _) (v := _) rfl (by kernel_rfl) (by kernel_rfl) (by kernel_rfl) (fun _ _ _ h => h) (Or.inl ⟨by kernel_rfl, ?_⟩) (by trivial) ?_
            rotate_left
            · (intro w hSw; go_simp; try (with_reducible rfl))
            try simp only [List.getElem_toArray, List.getElem_cons_succ, List.getElem_cons_zero, Act.put, List.setIfInBounds_toArray, List.set_cons_zero, List.set_cons_succ]
            refine' wpAnyH_take (i := 11) (oi := _) (v := _) rfl (by kernel_rfl) (by kernel_rfl) (by kernel_rfl) (fun _ _ _ h => h) (Or.inl ⟨by kernel_rfl, ?_⟩) (by trivial) ?_
            rotate_left
            · (intro w hSw; go_simp; try (with_reducible rfl))
            try simp only [List.getElem_toArray, List.getElem_cons_succ, List.getElem_cons_zero, Act.put, List.setIfInBounds_toArray, List.set_cons_zero, List.set_cons_succ]
            refine' wpAnyH_take (i := 12) (oi := _) (v := _) rfl (by kernel_rfl) (by kernel_rfl) (by kernel_rfl) (fun _ _ _ h => h) (Or.inl ⟨by kernel_rfl, ?_⟩) (by trivial) ?_
            rotate_left
            · (intro w hSw; go_simp; try (with_reducible rfl))
            try simp only [List.getElem_toArray, List.getElem_cons_succ, List.getElem_cons_zero, Act.put, List.setIfInBounds_toArray, List.set_cons_zero, List.set_cons_succ]
            refine' wpAnyH_take (i := 14) (oi := _) (v := _) rfl (by kernel_rfl) (by kernel_rfl) (by kernel_rfl) (fun _ _ _ h => h) (Or.inl ⟨by kernel_rfl, ?_⟩) (by trivial) ?_
            rotate_left
            · (intro w hSw; go_simp; try (with_reducible rfl))
            try simp only [List.getElem_toArray, List.getElem_cons_succ, List.getElem_cons_zero, Act.put, List.setIfInBounds_toArray, List.set_cons_zero, List.set_cons_succ]
            refine' wpAnyH_take (i := 15) (oi := _) (v := _) rfl (by kernel_rfl) (by kernel_rfl) (by kernel_rfl) (fun _ _ _ h => h) (Or.inl ⟨by kernel_rfl, ?_⟩) (by trivial) ?_
            rotate_left
            · (intro w hSw; go_simp; try (with_reducible rfl))
            try simp only [List.getElem_toArray, List.getElem_cons_succ, List.getElem_cons_zero, Act.put, List.setIfInBounds_toArray, List.set_cons_zero, List.set_cons_succ]
            refine' wpAnyH_take (i := 16) (oi := _) (v := _) rfl (by kernel_rfl) (by kernel_rfl) (by kernel_rfl) (fun _ _ _ h => h) (Or.inl ⟨by kernel_rfl, ?_⟩) (by trivial) ?_
            rotate_left
            · (intro w hSw; go_simp; try (with_reducible rfl))
            try simp only [List.getElem_toArray, List.getElem_cons_succ, List.getElem_cons_zero, Act.put, List.setIfInBounds_toArray, List.set_cons_zero, List.set_cons_succ]
            refine' wpAnyH_take (i := 17) (oi := _) (v := _) rfl (by kernel_rfl) (by kernel_rfl) (by kernel_rfl) (fun _ _ _ h => h) (Or.inl ⟨by kernel_rfl, ?_⟩) (by trivial) ?_
            rotate_left
            · (intro w hSw; go_simp; try (with_reducible rfl))
            try simp only [List.getElem_toArray, List.getElem_cons_succ, List.getElem_cons_zero, Act.put, List.setIfInBounds_toArray, List.set_cons_zero, List.set_cons_succ]
            refine' wpAnyH_take (i := 18) (oi := _) (v := _) rfl (by kernel_rfl) (by kernel_rfl) (by kernel_rfl) (fun _ _ _ h => h) (Or.inl ⟨by kernel_rfl, ?_⟩) (by trivial) ?_
            rotate_left
            · (intro w hSw; go_simp; try (with_reducible rfl))
            try simp only [List.getElem_toArray, List.getElem_cons_succ, List.getElem_cons_zero, Act.put, List.setIfInBounds_toArray, List.set_cons_zero, List.set_cons_succ]
            refine wpAnyH_ready (rs := [13, 19]) (by kernel_rfl) (by simp) ?_
            refine (AllReadyH.cons (o := _) rfl (fun K hK => ?_) (AllReadyH.cons (o := _) rfl (fun K hK => ?_) AllReadyH.nil))
            · go_simp
              refine hK.out _ _ trivial (fun _ => ?_)
              clear hK K
              try simp only [List.getElem_toArray, List.getElem_cons_succ, List.getElem_cons_zero, Act.put, List.setIfInBounds_toArray, List.set_cons_zero, List.set_cons_succ]
              refine wpAnyH_ready (rs := [19]) (by kernel_rfl) (by simp) ?_
              refine (AllReadyH.cons (o := _) rfl (fun K hK => ?_) AllReadyH.nil)
              go_simp
              refine hK.out _ _ trivial (fun _ => ?_)
              clear hK K
              try simp only [List.getElem_toArray, List.getElem_cons_succ, List.getElem_cons_zero, Act.put, List.setIfInBounds_toArray, List.set_cons_zero, List.set_cons_succ]
              refine' wpAnyH_take (i := 20) (oi := _) (v := _) rfl (by kernel_rfl) (by kernel_rfl) (by kernel_rfl) (fun _ _ _ h => h) (Or.inl ⟨by kernel_rfl, ?_⟩) (by trivial) ?_
              rotate_left
              · (intro w hSw; go_simp; try (with_reducible rfl))
              try simp only [List.getElem_toArray, List.getElem_cons_succ, List.getElem_cons_zero, Act.put, List.setIfInBounds_toArray, List.set_cons_zero, List.set_cons_succ]
              refine wpAnyH_ready (rs := [21]) (by kernel_rfl) (by simp) ?_
              refine (AllReadyH.cons (o := _) rfl (fun K hK => ?_) AllReadyH.nil)
              go_simp
              refine hK.out _ _ trivial (fun _ => ?_)
              clear hK K
              try simp only [List.getElem_toArray, List.getElem_cons_succ, List.getElem_cons_zero, Act.put, List.setIfInBounds_toArray, List.set_cons_zero, List.set_cons_succ]
              refine' wpAnyH_take (i := 22) (oi := _) (v := _) rfl (by kernel_rfl) (by kernel_rfl) (by kernel_rfl) (fun _ _ _ h => h) (Or.inl ⟨by kernel_rfl, ?_⟩) (by trivial) ?_
              rotate_left
              · (intro w hSw; go_simp; try (with_reducible rfl))
              try simp only [List.getElem_toArray, List.getElem_cons_succ, List.getElem_cons_zero, Act.put, List.setIfInBounds_toArray, List.set_cons_zero, List.set_cons_succ]
              refine wpAnyH_ready (rs := [23]) (by kernel_rfl) (by simp) ?_
              refine (AllReadyH.cons (o := _) rfl (fun K hK => ?_) AllReadyH.nil)
              go_simp
              refine hK.out _ _ trivial (fun _ => ?_)
              clear hK K
              try simp only [List.getElem_toArray, List.getElem_cons_succ, List.getElem_cons_zero, Act.put, List.setIfInBounds_toArray, List.set_cons_zero, List.set_cons_succ]
              refine wpAnyH_done (by kernel_rfl) ?_ _
              exact ⟨by kernel_rfl, HSW⟩
            · go_simp
              refine hK.out _ _ trivial (fun _ => ?_)
              clear hK K
              try simp only [List.getElem_toArray, List.getElem_cons_succ, List.getElem_cons_zero, Act.put, List.setIfInBounds_toArray, List.set_cons_zero, List.set_cons_succ]
              refine wpAnyH_ready (rs := [13]) (by kernel_rfl) (by simp) ?_
              refine (AllReadyH.cons (o := _) rfl (fun K hK => ?_) AllReadyH.nil)
              go_simp
              refine hK.out _ _ trivial (fun _ => ?_)
              clear hK K
              try simp only [List.getElem_toArray, List.getElem_cons_succ, List.getElem_cons_zero, Act.put, List.setIfInBounds_toArray, List.set_cons_zero, List.set_cons_succ]
              refine' wpAnyH_take (i := 20) (oi := _) (v := _) rfl (by kernel_rfl) (by kernel_rfl) (by kernel_rfl) (fun _ _ _ h => h) (Or.inl ⟨by kernel_rfl, ?_⟩) (by trivial) ?_
              rotate_left
              · (intro w hSw; go_simp; try (with_reducible rfl))
              try simp only [List.getElem_toArray, List.getElem_cons_succ, List.getElem_cons_zero, Act.put, List.setIfInBounds_toArray, List.set_cons_zero, List.set_cons_succ]
              refine wpAnyH_ready (rs := [21]) (by kernel_rfl) (by simp) ?_
              refine (AllReadyH.cons (o := _) rfl (fun K hK => ?_) AllReadyH.nil)
              go_simp
              refine hK.out _ _ trivial (fun _ => ?_)
              clear hK K
              try simp only [List.getElem_toArray, List.getElem_cons_succ, List.getElem_cons_zero, Act.put, List.setIfInBounds_toArray, List.set_cons_zero, List.set_cons_succ]
              refine' wpAnyH_take (i := 22) (oi := _) (v := _) rfl (by kernel_rfl) (by kernel_rfl) (by kernel_rfl) (fun _ _ _ h => h) (Or.inl ⟨by kernel_rfl, ?_⟩) (by trivial) ?_
              rotate_left
              · (intro w hSw; go_simp; try (with_reducible rfl))
              try simp only [List.getElem_toArray, List.getElem_cons_succ, List.getElem_cons_zero, Act.put, List.setIfInBounds_toArray, List.set_cons_zero, List.set_cons_succ]
              refine wpAnyH_ready (rs := [23]) (by kernel_rfl) (by simp) ?_
              refine (AllReadyH.cons (o := _) rfl (fun K hK => ?_) AllReadyH.nil)
              go_simp
              refine hK.out _ _ trivial (fun _ => ?_)
              clear hK K
              try simp only [List.getElem_toArray, List.getElem_cons_succ, List.getElem_cons_zero, Act.put, List.setIfInBounds_toArray, List.set_cons_zero, List.set_cons_succ]
              refine wpAnyH_done (by kernel_rfl) ?_ _
              exact ⟨by kernel_rfl, HSW⟩
          · intro t X HS
            simp only [puts, List.foldl_cons, List.foldl_nil, Act.put, List.setIfInBounds_toArray, List.set_cons_zero, List.set_cons_succ]
            go_wp2
            go_roundw
            case rel => exact ⟨c, by go_num, by have := HLT.out; omega, HS⟩
            case measure => have := HLT.out; have := HEQ.out; simp [intOf]; omega
theorem heap_ex (g cap n : Nat) (l0 : List Int) (a b : Nat) (w0 : World) (h : Uz w0 g n l0) (hab : a ≤ b) (hbn : b ≤ n) (hn : n ≤ 1152921504606846976) :
    Calls Tryd.prog 58 #[.slice (some ⟨g, 0, none⟩) n cap, .int .i64 a, .int .i64 b] w0 fun e w' => e = .returned (.tuple #[]) ∧ Sp w0 w' g n (fun l => l.toArray = Go.Sort.heapSort lt l0.toArray a b) := by
  obtain ⟨RR, hRR⟩ : ∃ R, Go.Sort.heapSort lt l0.toArray a b = R := ⟨_, rfl⟩
  rw [hRR]
  have CS := hid (show ∀ (U : World) (lo hi : Nat) (G : Array Int → Prop), lo ≤ n → a + hi ≤ n → Sp w0 U g n (fun l => G (Go.Sort.siftDown lt hi a lo l.toArray)) → Calls Tryd.prog 68 #[.slice (some ⟨g, 0, none⟩) n cap, .int .i64 lo, .int .i64 hi, .int .i64 a] U fun e w' => e = .returned (.tuple #[]) ∧ Hid (Sp w0 w' g n (fun l => G l.toArray)) from fun U lo hi G h1 h2 h3 => by
    obtain ⟨l, q1, q2, q3⟩ := h3
    exact (sift_ex g cap n l lo hi a U q2 h1 h2 hn).mono (fun e w' hh => ⟨hh.1, hid (Sp.trans q3 (hh.2.mono (fun l' _ e => by rw [e]; exact q1)))⟩))
  obtain ⟨m, hm⟩ : ∃ m, m = b - a := ⟨_, rfl⟩
  have HM := hid hm
  have wm : IntKind.i64.wrap ((b : Int) - (a : Int)) = (m : Int) := by rw [IntKind.wrap_i64]; omega
  have wm1 : IntKind.i64.wrap ((m : Int) - 1) = (m : Int) - 1 := by rw [IntKind.wrap_i64]; omega
  obtain ⟨z, hz⟩ : ∃ z : Int, ((m : Int) - 1).tdiv 2 = z := ⟨_, rfl⟩
  have hz2 : z = (((m - 1) / 2 : Nat) : Int) := by
    rw [← hz]
    rcases Nat.eq_zero_or_pos m with e | e
    · subst e; decide
    · rw [Int.tdiv_eq_ediv_of_nonneg (by omega)]; omega
  have hz1 : -1 ≤ z ∧ z ≤ m := by omega
  have HS0 := hid (h.sp (F := fun l => Go.Sort.heapPop lt a m (Go.Sort.heapBuild lt m a (z + 1).toNat l.toArray) = RR) (by
    have e : (z + 1).toNat = (m - 1) / 2 + 1 := by omega
    show Go.Sort.heapPop lt a m (Go.Sort.heapBuild lt m a (z + 1).toNat l0.toArray) = RR
    rw [e, hm, ← hRR]
    rfl))
  have wz : IntKind.i64.wrap z = z := by rw [IntKind.wrap_i64]; omega
  clear h hm hRR hz2
  go_enter Tryd.func58, Tryd.ntmps58
  go_upto_region 4 with fail
  clear hz wz
  go_loopw [9] (fun iv wr => ∃ i : Int, iv = .int .i64 i ∧ -1 ≤ i ∧ i ≤ m ∧ Hid (Sp w0 wr g n (fun l => Go.Sort.heapPop lt a m (Go.Sort.heapBuild lt m a (i + 1).toNat l.toArray) = RR))) (fun iv _ => (intOf iv + 1).toNat)
  case atStart => exact ⟨z, rfl, hz1.1, hz1.2, HS0⟩
  case round =>
    obtain ⟨i, rfl, i0, i1, HS⟩ := hrel
    by_cases hi0 : 0 ≤ i
    · obtain ⟨k, rfl⟩ : ∃ k : Nat, i = k := ⟨i.toNat, by omega⟩
      have wi : IntKind.i64.wrap ((k : Int) - 1) = (k : Int) - 1 := by rw [IntKind.wrap_i64]; have := HM.out; omega
      have C1 := hid (CS.out wr k m (fun d => Go.Sort.heapPop lt a m (Go.Sort.heapBuild lt m a ((k : Int) - 1 + 1).toNat d) = RR) (by have := HM.out; omega) (by have := HM.out; omega) (HS.out.mono (fun l _ hl => by
        have e1 : ((k : Int) + 1).toNat = k + 1 := by omega
        have e2 : ((k : Int) - 1 + 1).toNat = k := by omega
        rw [e1] at hl
        rw [e2]
        exact hl)))
      go_wp2_with (go_at_call 68; with_reducible refine (C1.out).mono ?_; rintro e v1 ⟨rfl, HS1⟩)
      go_roundw
      case rel => exact ⟨(k : Int) - 1, by go_num, by omega, by omega, HS1⟩
      case measure => first | (simp [intOf]; done) | (simp [intOf]; omega)
    · have HS' := hid (HS.out.mono (G := fun l => Go.Sort.heapPop lt a ((m : Int) - 1 + 1).toNat l.toArray = RR) (fun l _ hl => by
        have e1 : (i + 1).toNat = 0 := by omega
        have e2 : ((m : Int) - 1 + 1).toNat = m := by omega
        rw [e1] at hl
        rw [e2]
        exact hl))
      clear HS
      go_upto_region 8 with fail
      go_loopw [10] (fun iv wr => ∃ i : Int, iv = .int .i64 i ∧ -1 ≤ i ∧ i < m ∧ Hid (Sp w0 wr g n (fun l => Go.Sort.heapPop lt a (i + 1).toNat l.toArray = RR))) (fun iv _ => (intOf iv + 1).toNat)
      case atStart => exact ⟨(m : Int) - 1, rfl, by omega, by omega, HS'⟩
      case round =>
        clear HS'
        obtain ⟨i, rfl, i0, i1, HS⟩ := hrel
        by_cases hi0 : 0 ≤ i
        · obtain ⟨k, rfl⟩ : ∃ k : Nat, i = k := ⟨i.toNat, by omega⟩
          have wi : IntKind.i64.wrap ((k : Int) - 1) = (k : Int) - 1 := by rw [IntKind.wrap_i64]; have := HM.out; omega
          obtain ⟨p, hp⟩ : ∃ p, p = a + k := ⟨_, rfl⟩
          have wp : IntKind.i64.wrap ((a : Int) + (k : Int)) = (p : Int) := by rw [IntKind.wrap_i64]; have := HM.out; omega
          obtain ⟨l, p1, u1, k1⟩ := HS.out
          have P1 := hid (show Go.Sort.heapPop lt a k (Go.Sort.siftDown lt k a 0 (sw l a p).toArray) = RR from by
            have e1 : ((k : Int) + 1).toNat = k + 1 := by omega
            rw [e1] at p1
            rw [sw_arr, hp]
            exact p1)
          have U1 := hid u1
          have K1 := hid k1
          have hin : a < n := by have := HM.out; omega
          have hjn : p < n := by have := HM.out; omega
          have a0' : (0 : Int) ≤ (a : Int) := by omega
          have a2 : (a : Int) < (n : Int) := by omega
          have p0' : (0 : Int) ≤ (p : Int) := by omega
          have p2 : (p : Int) < (n : Int) := by omega
          clear hp p1 u1 k1
          go_upto_region 10 with fail
          refine reg_any [33, 34, 35, 36, 37, 38, 39, 40, 41, 42, 43, 44, 45, 46, 47, 48, 49, 50] (fun X => Hid (Sp w0 X g n (fun l => Go.Sort.heapPop lt a k (Go.Sort.siftDown lt k a 0 l.toArray) = RR))) ?_ ?_
          · have U2 := hid (U1.out.same (w' := wr.drew) rfl)
            have K2 := hid (K1.out.trans (Kp.drew _ wr) (fun _ _ e => e))
            obtain ⟨V, hV⟩ : ∃ U, wr.drew = U := ⟨_, rfl⟩
            rw [hV] at U2 K2
            obtain ⟨xi, hxi⟩ : ∃ x, gd l a = x := ⟨_, rfl⟩
            obtain ⟨xj, hxj⟩ : ∃ x, gd l p = x := ⟨_, rfl⟩
            have ci : V.cell? ⟨g, a, none⟩ = some (.int .u64 xi) := by rw [← hxi]; exact U2.out.cell hin
            have cj : V.cell? ⟨g, p, none⟩ = some (.int .u64 xj) := by rw [← hxj]; exact U2.out.cell hjn
            have fi := U2.out.frz a
            have fj := U2.out.frz p
            have U3 := hid (U2.out.set hin xj)
            have cj3 := U3.out.cell hjn
            have fj3 := U3.out.frz p
            have HSW := hid (Sp.swap (F := fun l => Go.Sort.heapPop lt a k (Go.Sort.siftDown lt k a 0 l.toArray) = RR) P1.out U2.out K2.out hin hjn)
            rw [hxi, hxj] at HSW
            refine wp_region_held_drew (S := fun _ => True) (by kernel_rfl) trivial (fun _ => ?_)
            rw [hV]
            clear hV hxi hxj
            refine' wpAnyH_take (i := 0) (oi := _) (v := _) rfl (by kernel_rfl) (by kernel_rfl) (by kernel_rfl) (fun _ _ _ h => h) (Or.inl ⟨by kernel_rfl, ?_⟩) (by trivial) ?_
            rotate_left
            · (intro w hSw; go_simp; try (with_reducible rfl))
            try simp only [List.getElem_toArray, List.getElem_cons_succ, List.getElem_cons_zero, Act.put, List.setIfInBounds_toArray, List.set_cons_zero, List.set_cons_succ]
            refine' wpAnyH_take (i := 1) (oi := _) (v := _) rfl (by kernel_rfl) (by kernel_rfl) (by kernel_rfl) (fun _ _ _ h => h) (Or.inl ⟨by kernel_rfl, ?_⟩) (by trivial) ?_
            rotate_left
            · (intro w hSw; go_simp; try (with_reducible rfl))
            try simp only [List.getElem_toArray, List.getElem_cons_succ, List.getElem_cons_zero, Act.put, List.setIfInBounds_toArray, List.set_cons_zero, List.set_cons_succ]
            refine' wpAnyH_take (i := 2) (oi := _) (v := _) rfl (by kernel_rfl) (by kernel_rfl) (by kernel_rfl) (fun _ _ _ h => h) (Or.inl ⟨by kernel_rfl, ?_⟩) (by trivial) ?_
            rotate_left
            · (intro w hSw; go_simp; try (with_reducible rfl))
            try simp only [List.getElem_toArray, List.getElem_cons_succ, List.getElem_cons_zero, Act.put, List.setIfInBounds_toArray, List.set_cons_zero, List.set_cons_succ]
            refine' wpAnyH_take (i := 3) (oi := _) (v := _) rfl (by kernel_rfl) (by kernel_rfl) (by kernel_rfl) (fun _ _ _ h => h) (Or.inl ⟨by kernel_rfl, ?_⟩) (by trivial) ?_
            rotate_left
            · (intro w hSw; go_simp; try (with_reducible rfl))
            try simp only [List.getElem_toArray, List.getElem_cons_succ, List.getElem_cons_zero, Act.put, List.setIfInBounds_toArray, List.set_cons_zero, List.set_cons_succ]
            refine' wpAnyH_take (i := 4) (oi := _) (v := _) rfl (by kernel_rfl) (by kernel_rfl) (by kernel_rfl) (fun _ _ _ h => h) (Or.inl ⟨by kernel_rfl, ?_⟩) (by trivial) ?_
            rotate_left
            · (intro w hSw; go_simp; try (with_reducible rfl))
            try simp only [List.getElem_toArray, List.getElem_cons_succ, List.getElem_cons_zero, Act.put, List.setIfInBounds_toArray, List.set_cons_zero, List.set_cons_succ]
            refine' wpAnyH_take (i := 5) (oi := _) (v := _) rfl (by kernel_rfl) (by kernel_rfl) (by kernel_rfl) (fun _ _ _ h => h) (Or.inl ⟨by kernel_rfl, ?_⟩) (by trivial) ?_
            rotate_left
            · (intro w hSw; go_simp; try (with_reducible rfl))
            try simp only [List.getElem_toArray, List.getElem_cons_succ, List.getElem_cons_zero, Act.put, List.setIfInBounds_toArray, List.set_cons_zero, List.set_cons_succ]
            refine' wpAnyH_take (i := 6) (oi := _) (v := _) rfl (by kernel_rfl) (by kernel_rfl) (by kernel_rfl) (fun _ _ _ h => h) (Or.inl ⟨by kernel_rfl, ?_⟩) (by trivial) ?_
            rotate_left
            · (intro w hSw; go_simp; try (with_reducible rfl))
            try simp only [List.getElem_toArray, List.getElem_cons_succ, List.getElem_cons_zero, Act.put, List.setIfInBounds_toArray, List.set_cons_zero, List.set_cons_succ]
            refine' wpAnyH_take (i := 7) (oi := _) (v := _) rfl (by kernel_rfl) (by kernel_rfl) (by kernel_rfl) (fun _ _ _ h => h) (Or.inl ⟨by kernel_rfl, ?_⟩) (by trivial) ?_
            rotate_left
            · (intro w hSw; go_simp; try (with_reducible rfl))
            try simp only [List.getElem_toArray, List.getElem_cons_succ, List.getElem_cons_zero, Act.put, List.setIfInBounds_toArray, List.set_cons_zero, List.set_cons_succ]
            refine' wpAnyH_take (i := 8) (oi := _) (v := _) rfl (by kernel_rfl) (by kernel_rfl) (by kernel_rfl) (fun _ _ _ h => h) (Or.inl ⟨by kernel_rfl, ?_⟩) (by trivial) ?_
            rotate_left
            · (intro w hSw; go_simp; try (with_reducible rfl))
            try simp only [List.getElem_toArray, List.getElem_cons_succ, List.getElem_cons_zero, Act.put, List.setIfInBounds_toArray, List.set_cons_zero, List.set_cons_succ]
            refine' wpAnyH_take (i := 9) (oi := _) (v := _) rfl (by kernel_rfl) (by kernel_rfl) (by kernel_rfl) (fun _ _ _ h => h) (Or.inl ⟨by kernel_rfl, ?_⟩) (by trivial) ?_
            rotate_left
            · (intro w hSw; go_simp; try (with_reducible rfl))
            try simp only [List.getElem_toArray, List.getElem_cons_succ, List.getElem_cons_zero, Act.put, List.setIfInBounds_toArray, List.set_cons_zero, List.set_cons_succ]
            refine' wpAnyH_take (i := 10) (oi := _) (v := _) rfl (by kernel_rfl) (by kernel_rfl) (by kernel_rfl) (fun _ _ _ h => h) (Or.inl ⟨by kernel_rfl, ?_⟩) (by trivial) ?_
            rotate_left
            · (intro w hSw; go_simp; try (with_reducible rfl))
            try simp only [List.getElem_toArray, List.getElem_cons_succ, List.getElem_cons_zero, Act.put, List.setIfInBounds_toArray, List.set_cons_zero, List.set_cons_succ]
            refine' wpAnyH_take (i := 12) (oi := _) (v := _) rfl (by kernel_rfl) (by kernel_rfl) (by kernel_rfl) (fun _ _ _ h => h) (Or.inl ⟨by kernel_rfl, ?_⟩) (by trivial) ?_
            rotate_left
            · (intro w hSw; go_simp; try (with_reducible rfl))
            try simp only [List.getElem_toArray, List.getElem_cons_succ, List.getElem_cons_zero, Act.put, List.setIfInBounds_toArray, List.set_cons_zero, List.set_cons_succ]
            refine' wpAnyH_take (i := 13) (oi := _) (v := _) rfl (by kernel_rfl) (by kernel_rfl) (by kernel_rfl) (fun _ _ _ h => h) (Or.inl ⟨by kernel_rfl, ?_⟩) (by trivial) ?_
            rotate_left
            · (intro w hSw; go_simp; try (with_reducible rfl))
            try simp only [List.getElem_toArray, List.getElem_cons_succ, List.getElem_cons_zero, Act.put, List.setIfInBounds_toArray, List.set_cons_zero, List.set_cons_succ]
            refine' wpAnyH_take (i := 14) (oi := _) (v := _) rfl (by kernel_rfl) (by kernel_rfl) (by kernel_rfl) (fun _ _ _ h => h) (Or.inl ⟨by kernel_rfl, ?_⟩) (by trivial) ?_
            rotate_left
            · (intro w hSw; go_simp; try (with_reducible rfl))
            try simp only [List.getElem_toArray, List.getElem_cons_succ, List.getElem_cons_zero, Act.put, List.setIfInBounds_toArray, List.set_cons_zero, List.set_cons_succ]
            refine wpAnyH_ready (rs := [11, 15]) (by kernel_rfl) (by simp) ?_
            refine (AllReadyH.cons (o := _) rfl (fun K hK => ?_) (AllReadyH.cons (o := _) rfl (fun K hK => ?_) AllReadyH.nil))
            · go_simp
              refine hK.out _ _ trivial (fun _ => ?_)
              clear hK K
              try simp only [List.getElem_toArray, List.getElem_cons_succ, List.getElem_cons_zero, Act.put, List.setIfInBounds_toArray, List.set_cons_zero, List.set_cons_succ]
              refine wpAnyH_ready (rs := [15]) (by kernel_rfl) (by simp) ?_
              refine (AllReadyH.cons (o := _) rfl (fun K hK => ?_) AllReadyH.nil)
              go_simp
              refine hK.out _ _ trivial (fun _ => ?_)
              clear hK K
              try simp only [List.getElem_toArray, List.getElem_cons_succ, List.getElem_cons_zero, Act.put, List.setIfInBounds_toArray, List.set_cons_zero, List.set_cons_succ]
              refine' wpAnyH_take (i := 16) (oi := _) (v := _) rfl (by kernel_rfl) (by kernel_rfl) (by kernel_rfl) (fun _ _ _ h => h) (Or.inl ⟨by kernel_rfl, ?_⟩) (by trivial) ?_
              rotate_left
              · (intro w hSw; go_simp; try (with_reducible rfl))
              try simp only [List.getElem_toArray, List.getElem_cons_succ, List.getElem_cons_zero, Act.put, List.setIfInBounds_toArray, List.set_cons_zero, List.set_cons_succ]
              refine wpAnyH_ready (rs := [17]) (by kernel_rfl) (by simp) ?_
              refine (AllReadyH.cons (o := _) rfl (fun K hK => ?_) AllReadyH.nil)
              go_simp
              refine hK.out _ _ trivial (fun _ => ?_)
              clear hK K
              try simp only [List.getElem_toArray, List.getElem_cons_succ, List.getElem_cons_zero, Act.put, List.setIfInBounds_toArray, List.set_cons_zero, List.set_cons_succ]
              refine' wpAnyH_take (i := 18) (oi := _) (v := _) rfl (by kernel_rfl) (by kernel_rfl) (by kernel_rfl) (fun _ _ _ h => h) (Or.inl ⟨by kernel_rfl, ?_⟩) (by trivial) ?_
              rotate_left
              · (intro w hSw; go_simp; try (with_reducible rfl))
              try simp only [List.getElem_toArray, List.getElem_cons_succ, List.getElem_cons_zero, Act.put, List.setIfInBounds_toArray, List.set_cons_zero, List.set_cons_succ]
              refine wpAnyH_ready (rs := [19]) (by kernel_rfl) (by simp) ?_
              refine (AllReadyH.cons (o := _) rfl (fun K hK => ?_) AllReadyH.nil)
              go_simp
              refine hK.out _ _ trivial (fun _ => ?_)
              clear hK K
              try simp only [List.getElem_toArray, List.getElem_cons_succ, List.getElem_cons_zero, Act.put, List.setIfInBounds_toArray, List.set_cons_zero, List.set_cons_succ]
              refine wpAnyH_done (by kernel_rfl) ?_ _
              exact ⟨by kernel_rfl, HSW⟩
            · go_simp
              refine hK.out _ _ trivial (fun _ => ?_)
              clear hK K
              try simp only [List.getElem_toArray, List.getElem_cons_succ, List.getElem_cons_zero, Act.put, List.setIfInBounds_toArray, List.set_cons_zero, List.set_cons_succ]
              refine wpAnyH_ready (rs := [11]) (by kernel_rfl) (by simp) ?_
              refine (AllReadyH.cons (o := _) rfl (fun K hK => ?_) AllReadyH.nil)
              go_simp
              refine hK.out _ _ trivial (fun _ => ?_)
              clear hK K
              try simp only [List.getElem_toArray, List.getElem_cons_succ, List.getElem_cons_zero, Act.put, List.setIfInBounds_toArray, List.set_cons_zero, List.set_cons_succ]
              refine' wpAnyH_take (i := 16) (oi := _) (v := _) rfl (by kernel_rfl) (by kernel_rfl) (by kernel_rfl) (fun _ _ _ h => h) (Or.inl ⟨by kernel_rfl, ?_⟩) (by trivial) ?_
              rotate_left
              · (intro w hSw; go_simp; try (with_reducible rfl))
              try simp only [List.getElem_toArray, List.getElem_cons_succ, List.getElem_cons_zero, Act.put, List.setIfInBounds_toArray, List.set_cons_zero, List.set_cons_succ]
              refine wpAnyH_ready (rs := [17]) (by kernel_rfl) (by simp) ?_
              refine (AllReadyH.cons (o := _) rfl (fun K hK => ?_) AllReadyH.nil)
              go_simp
              refine hK.out _ _ trivial (fun _ => ?_)
              clear hK K
              try simp only [List.getElem_toArray, List.getElem_cons_succ, List.getElem_cons_zero, Act.put, List.setIfInBounds_toArray, List.set_cons_zero, List.set_cons_succ]
              refine' wpAnyH_take (i := 18) (oi := _) (v := _) rfl (by kernel_rfl) (by kernel_rfl) (by kernel_rfl) (fun _ _ _ h => h) (Or.inl ⟨by kernel_rfl, ?_⟩) (by trivial) ?_
              rotate_left
              · (intro w hSw; go_simp; try (with_reducible rfl))
              try simp only [List.getElem_toArray, List.getElem_cons_succ, List.getElem_cons_zero, Act.put, List.setIfInBounds_toArray, List.set_cons_zero, List.set_cons_succ]
              refine wpAnyH_ready (rs := [19]) (by kernel_rfl) (by simp) ?_
              refine (AllReadyH.cons (o := _) rfl (fun K hK => ?_) AllReadyH.nil)
              go_simp
              refine hK.out _ _ trivial (fun _ => ?_)
              clear hK K
              try simp only [List.getElem_toArray, List.getElem_cons_succ, List.getElem_cons_zero, Act.put, List.setIfInBounds_toArray, List.set_cons_zero, List.set_cons_succ]
              refine wpAnyH_done (by kernel_rfl) ?_ _
              exact ⟨by kernel_rfl, HSW⟩
          · intro t X HS
            simp only [puts, List.foldl_cons, List.foldl_nil, Act.put, List.setIfInBounds_toArray, List.set_cons_zero, List.set_cons_succ]
            have C1 := hid (show Calls Tryd.prog 68 #[.slice (some ⟨g, 0, none⟩) n cap, .int .i64 0, .int .i64 k, .int .i64 a] X fun e w' => e = .returned (.tuple #[]) ∧ Hid (Sp w0 w' g n (fun l => Go.Sort.heapPop lt a k l.toArray = RR)) from CS.out X 0 k (fun d => Go.Sort.heapPop lt a k d = RR) (by omega) (by have := HM.out; omega) HS.out)
            go_wp2_with (go_at_call 68; with_reducible refine (C1.out).mono ?_; rintro e v1 ⟨rfl, HS1⟩)
            go_roundw
            case rel => exact ⟨(k : Int) - 1, by go_num, by omega, by omega, hid (HS1.out.mono (fun l _ hl => by
              have e2 : ((k : Int) - 1 + 1).toNat = k := by omega
              rw [e2]
              exact hl))⟩
            case measure => first | (simp [intOf]; done) | (simp [intOf]; omega)
        · have HE := hid (HS.out.mono (G := fun l => l.toArray = RR) (fun l _ hl => by
            have e1 : (i + 1).toNat = 0 := by omega
            rw [e1] at hl
            exact hl))
          go_wp2
          go_end0
          exact ⟨rfl, HE.out⟩
end Go.Proofs.YtjpkodllemoniaaDoor.Sr
