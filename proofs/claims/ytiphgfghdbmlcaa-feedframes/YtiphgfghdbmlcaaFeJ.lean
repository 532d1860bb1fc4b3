/-
  Whether a side's levels can be.
-/
import Derived.Test.YtiphgfghdbmlcaaFeI
namespace Go.Proofs.Ytiphgfghdbmlcaa
open Go.RowKit Go.Deep
set_option linter.unusedVariables false
set_option linter.unusedSimpArgs false
set_option maxHeartbeats 2000000
set_option maxRecDepth 100000
theorem lvG_iff (z : Lv) : lvG z = true ↔ (0 ≤ z.pr ∧ z.pr < 262144 ∧ 1 ≤ z.qt ∧ 1 ≤ z.ct) := by simp only [lvG, decide_eq_true_eq]
theorem canBeSide_any (s : Int) (p : Option Addr) (c : Nat) (l : List Lv) (w : World) (h : Rl w p c l) :
    Calls Try.prog 48 #[.int .i64 s, .slice p l.length c] w fun e w' => e = .returned (.bool (lok s l)) ∧ Below w.heap.size w w' := by
  have hmax := h.max
  have hcap := h.cap
  unfold maxLen at hmax
  have HL := hid h
  have TT := hid (fun (x : Int) (U : World) => isTick_any x U)
  have OO := hid (fun (a b : Int) (U : World) => order_any s a b U)
  obtain ⟨n, hn⟩ : ∃ n, l.length = n := ⟨_, rfl⟩
  have HN := hid hn
  rw [hn] at hcap ⊢
  clear h hn
  go_enter Try.func48, Try.ntmps48
  go_wp2
  go_loopw [9] (fun iv wr => ∃ i : Nat, i ≤ n ∧ iv = .int .i64 i ∧ Hid (∀ k (hk : k < l.length), k < i → OkAt s l k hk) ∧ Hid (Below w.heap.size w wr)) (fun iv _ => n - (intOf iv).toNat)
  case atStart => exact ⟨0, by omega, rfl, fun k _ hk => by omega, Below.refl _ _⟩
  case round =>
    obtain ⟨i, hi, rfl, HP, HB⟩ := hrel
    by_cases hlt : i < n
    · have hil : i < l.length := by have := HN.out; omega
      obtain ⟨g, o, rfl, sg, a0, a1, a2⟩ := (HL.out.on HB.out).cells hil
      obtain ⟨z, hz⟩ : ∃ z, l[i] = z := ⟨_, rfl⟩
      rw [hz] at a0 a1 a2
      have HZ := hid hz
      have i0 : (0 : Int) ≤ (i : Int) := by omega
      have i1 : (i : Int) < (n : Int) := by omega
      obtain ⟨W, hW⟩ : ∃ W, wr.alloc (.cells #[.int .i64 z.pr, .int .u64 z.qt, .int .i64 z.ct] 89) = W := ⟨_, rfl⟩
      have HW := hid hW
      have HBW := hid (show Below w.heap.size w W from by rw [← hW]; exact btr HB.out (ball _ _))
      clear hW
      cases t1 : tk z.pr with
      | false =>
        have TZ := hid (fun (U : World) => TT.out z.pr U)
        rw [t1] at TZ
        have E := hid (show lok s l = false from lok_not (i := i) (by have := HN.out; omega) (fun hk => by
          have := (lvG_iff _).1 hk.1
          rw [HZ.out] at this
          simp only [tk, decide_eq_false_iff_not] at t1
          omega))
        clear hz t1
        go_wp2_with (go_at_call 62; with_reducible refine (TZ.out _).mono ?_; rintro e w1 ⟨rfl, rfl⟩)
        go_ret
        exact ⟨by rw [E.out]; rfl, by rw [HW.out]; exact HBW.out⟩
      | true =>
        have TZ := hid (fun (U : World) => TT.out z.pr U)
        rw [t1] at TZ
        by_cases g1 : z.qt < 1
        · have E := hid (show lok s l = false from lok_not (i := i) (by have := HN.out; omega) (fun hk => by
            have := (lvG_iff _).1 hk.1
            rw [HZ.out] at this
            omega))
          clear hz t1
          go_wp2_with (go_at_call 62; with_reducible refine (TZ.out _).mono ?_; rintro e w1 ⟨rfl, rfl⟩)
          go_ret
          exact ⟨by rw [E.out]; rfl, by rw [HW.out]; exact HBW.out⟩
        · have g1' : decide (z.qt < 1) = false := by simpa using g1
          by_cases g2 : z.ct < 1
          · have E := hid (show lok s l = false from lok_not (i := i) (by have := HN.out; omega) (fun hk => by
              have := (lvG_iff _).1 hk.1
              rw [HZ.out] at this
              omega))
            clear hz t1 g1
            go_wp2_with (go_at_call 62; with_reducible refine (TZ.out _).mono ?_; rintro e w1 ⟨rfl, rfl⟩)
            go_ret
            exact ⟨by rw [E.out]; rfl, by rw [HW.out]; exact HBW.out⟩
          · have g2' : decide (z.ct < 1) = false := by simpa using g2
            have G := hid (show lvG z = true from (lvG_iff z).2 (by simp only [tk, decide_eq_true_eq] at t1; omega))
            clear hz t1 g1 g2
            by_cases i00 : i = 0
            · have d0 : decide (0 < i) = false := by simp [i00]
              have PO := hid (show OkAt s l i (by have := HN.out; omega) from ⟨by rw [HZ.out]; exact G.out, fun h0 => by omega⟩)
              have HI := hid i00
              clear i00
              go_upto_region 6 with (go_at_call 62; with_reducible refine (TZ.out _).mono ?_; rintro e w1 ⟨rfl, rfl⟩)
              rw [HW.out]
              go_quiet (fail)
              go_wp2
              go_roundw
              case rel => exact ⟨i + 1, by omega, by go_num, fun k hk hki => by
                by_cases e : k = i
                · subst e; exact PO.out
                · exact HP.out k hk (by omega), btr HBW.out (bdrew _ _)⟩
              case measure => simp [intOf]; omega
            · obtain ⟨m, hm⟩ : ∃ m, i = m + 1 := ⟨i - 1, by omega⟩
              have hml : m < l.length := by omega
              obtain ⟨g', o', e', _, b0, b1, b2⟩ := (HL.out.on HBW.out).cells hml
              injection e' with e'
              injection e' with e1 e2
              subst e1 e2
              obtain ⟨y, hy⟩ : ∃ y, l[m] = y := ⟨_, rfl⟩
              rw [hy] at b0
              have HY := hid hy
              have d0 : decide (0 < i) = true := by simp; omega
              have m0 : (i : Int) - 1 = (m : Int) := by omega
              have m1 : (0 : Int) ≤ (m : Int) := by omega
              have m2 : (m : Int) < (n : Int) := by omega
              have HM := hid hm
              have c0 : W.cell? ⟨wr.heap.size, 0, none⟩ = some (.int .i64 z.pr) := by rw [← HW.out]; exact row_cell (World.alloc_heap_new _ _) 0
              clear b1 b2 hy hm
              obtain ⟨v, hv⟩ : ∃ v, od s y.pr z.pr = v := ⟨_, rfl⟩
              have OZ := hid (fun (U : World) => OO.out y.pr z.pr U)
              rw [hv] at OZ
              have HV := hid hv
              clear hv
              by_cases hv0 : 0 ≤ v
              · have E := hid (show lok s l = false from lok_not (i := i) (by have := HN.out; omega) (fun hk => by
                  have h2 := hk.2 (by omega)
                  have e4 : l[i - 1]'(by omega) = y := by
                    have := HY.out
                    simp only [HM.out, Nat.add_sub_cancel]; exact this
                  rw [e4, HZ.out] at h2
                  have := od_neg.2 h2
                  rw [HV.out] at this
                  omega))
                go_upto_region 6 with (go_at_call 62; with_reducible refine (TZ.out _).mono ?_; rintro e w1 ⟨rfl, rfl⟩)
                rw [HW.out]
                go_quiet ((go_at_call 64; with_reducible exact Calls.quiet_of_same (OZ.out _)))
                go_wp2
                go_ret
                exact ⟨by rw [E.out]; rfl, btr HBW.out (bdrew _ _)⟩
              · have PO := hid (show OkAt s l i (by have := HN.out; omega) from ⟨by rw [HZ.out]; exact G.out, fun h0 => by
                  have e4 : l[i - 1]'(by omega) = y := by
                    have := HY.out
                    simp only [HM.out, Nat.add_sub_cancel]; exact this
                  rw [e4, HZ.out]
                  exact od_neg.1 (by rw [HV.out]; omega)⟩)
                have v1 : decide (0 ≤ v) = false := by simpa using hv0
                clear hv0
                go_upto_region 6 with (go_at_call 62; with_reducible refine (TZ.out _).mono ?_; rintro e w1 ⟨rfl, rfl⟩)
                rw [HW.out]
                go_quiet ((go_at_call 64; with_reducible exact Calls.quiet_of_same (OZ.out _)))
                go_wp2
                go_roundw
                case rel => exact ⟨i + 1, by omega, by go_num, fun k hk hki => by
                  by_cases e : k = i
                  · subst e; exact PO.out
                  · exact HP.out k hk (by omega), btr HBW.out (bdrew _ _)⟩
                case measure => simp [intOf]; omega
    · have E := hid (show lok s l = true from (lok_iff s l).2 (fun k hk => HP.out k hk (by have := HN.out; omega)))
      go_wp2
      go_ret
      exact ⟨by rw [E.out]; rfl, HB.out⟩
end Go.Proofs.Ytiphgfghdbmlcaa
