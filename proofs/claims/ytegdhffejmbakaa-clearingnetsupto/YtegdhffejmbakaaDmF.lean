/-
  DmF
-/
import Derived.Test.YtegdhffejmbakaaDmE
namespace Go.Proofs.Ytegdhffejmbakaa.Dm
open Go.RowKit Go.Deep BigM MonM TexM ParM
set_option linter.unusedVariables false
set_option linter.unusedSimpArgs false
set_option maxHeartbeats 8000000
set_option maxRecDepth 100000
attribute [local go_sem ↓] Go.wp_at_zero Go.wp_at_succ
theorem amount_ok (below : Bool) (x : Int) (hx0 : 0 ≤ x) (hx : x ≤ 170141183460469231731687303715884105727) (m : Int) (hm : (if below then -x else x) = m) (u : Value) (U : World) (h : Bn U u x) :
    Calls Try.prog 31 #[.bool below, u] U fun e w' => (∃ u, e = .returned (.tuple #[.agg #[.bool (decide (m < 0)), u], .int .i64 0]) ∧ Bn w' u (absI m)) ∧ Below U.heap.size U w' :=
  (amount_any below u x U h (by have := pw4; omega)).mono (fun e w' ⟨h1, h2⟩ => ⟨by
    rcases h1 with ⟨_, v, e1, u, e2, e3⟩ | ⟨h9, _⟩
    · rw [hm] at e2 e3
      exact ⟨u, by rw [e1, e2], e3⟩
    · exact absurd hx h9, h2⟩)
theorem amount_no (below : Bool) (x : Int) (hx : ¬ x ≤ 170141183460469231731687303715884105727) (hp : x < pw 1000) (u : Value) (U : World) (h : Bn U u x) :
    Calls Try.prog 31 #[.bool below, u] U fun e w' => e = .returned (.tuple #[.agg #[.bool false, .slice none 0 0], .int .i64 10]) ∧ Below U.heap.size U w' :=
  (amount_any below u x U h hp).mono (fun e w' ⟨h1, h2⟩ => ⟨by
    rcases h1 with ⟨h9, _⟩ | ⟨_, e1⟩
    · exact absurd h9 hx
    · exact e1, h2⟩)
theorem dig4 {h l : Int} (h0 : 0 ≤ h) (h1 : h < 18446744073709551616) (l0 : 0 ≤ l) (l1 : l < 18446744073709551616) : Dig [l % 4294967296, l / 4294967296, h % 4294967296, h / 4294967296] ∧ val [l % 4294967296, l / 4294967296, h % 4294967296, h / 4294967296] = h * 18446744073709551616 + l := by
  refine ⟨?_, ?_⟩
  · intro d hd; simp at hd; rcases hd with rfl | rfl | rfl | rfl <;> omega
  · simp [val]; omega
theorem trim4 {h l : Int} (h0 : 0 ≤ h) (h1 : h < 18446744073709551616) (l0 : 0 ≤ l) (l1 : l < 18446744073709551616) (W : World) :
    Calls Try.prog 30 #[.slice (some ⟨W.heap.size, 0, none⟩) 4 4] (W.alloc (.cells #[.int .u32 (l % 4294967296), .int .u32 (l / 4294967296), .int .u32 (h % 4294967296), .int .u32 (h / 4294967296)] 23)) fun e w' => (∃ u, e = .returned u ∧ Bn w' u (h * 18446744073709551616 + l)) ∧ Below W.heap.size W w' := by
  obtain ⟨d, v⟩ := dig4 h0 h1 l0 l1
  have := trimmed_any (W.alloc (.cells #[.int .u32 (l % 4294967296), .int .u32 (l / 4294967296), .int .u32 (h % 4294967296), .int .u32 (h / 4294967296)] 23)) (.slice (some ⟨W.heap.size, 0, none⟩) 4 4) [l % 4294967296, l / 4294967296, h % 4294967296, h / 4294967296] (.inr ⟨W.heap.size, 0, 4, rfl, by simp, by simp [maxLen], alloc_cells _ _, by
    intro j hj
    have hj' : j < 4 := hj
    rw [row_cell (World.alloc_heap_new W _) (0 + j)]
    rcases (show j = 0 ∨ j = 1 ∨ j = 2 ∨ j = 3 by omega) with rfl | rfl | rfl | rfl <;> rfl⟩) d
  rw [v] at this
  refine this.mono ?_
  rintro e w' ⟨⟨u, rfl, hu⟩, rfl⟩
  exact ⟨⟨u, rfl, hu⟩, ball _ _⟩
/-- what two words say. -/
def sgn (H L : Int) : Int := if 9223372036854775808 ≤ H then H * 18446744073709551616 + L - 340282366920938463463374607431768211456 else H * 18446744073709551616 + L
def FrP (H L : Int) (e : Ending) (w' : World) : Prop := ∃ v m er, e = .returned (.tuple #[v, .int .i64 er]) ∧ Am w' v m ∧ ((H = 9223372036854775808 ∧ L = 0 ∧ er = 3 ∧ m = 0) ∨ (¬ (H = 9223372036854775808 ∧ L = 0) ∧ er = 0 ∧ m = sgn H L))
theorem reffrom_any (H L : Int) (w : World) (hH : 0 ≤ H ∧ H < 18446744073709551616) (hL : 0 ≤ L ∧ L < 18446744073709551616) :
    Calls Try.prog 11 #[.agg #[.int .u64 H, .int .u64 L]] w fun e w' => FrP H L e w' ∧ Below w.heap.size w w' := by
  obtain ⟨Wa, hWa⟩ : ∃ W, w.alloc (.cells #[.int .u64 H, .int .u64 L] 59) = W := ⟨_, rfl⟩
  obtain ⟨Wb, hWb⟩ : ∃ W, Wa.alloc (.cells #[.bool false, .slice none 0 0] 41) = W := ⟨_, rfl⟩
  have ba : Below w.heap.size w Wa := by rw [← hWa]; exact ball _ _
  have bb : Below Wa.heap.size Wa Wb := by rw [← hWb]; exact ball _ _
  have RA := row_on (show Wa.heap[w.heap.size]? = some (.cells #[.int .u64 H, .int .u64 L] 59 (0, 0)) from by rw [← hWa]; exact World.alloc_heap_new _ _) bb
  have RB := hid (show Wb.heap[Wa.heap.size]? = some (.cells #[.bool false, .slice none 0 0] 41 (0, 0)) from by rw [← hWb]; exact World.alloc_heap_new _ _)
  have BB := hid (btr ba bb)
  have a0 : Wb.cell? ⟨w.heap.size, 0, none⟩ = some (.int .u64 H) := row_cell RA 0
  have a1 : Wb.cell? ⟨w.heap.size, 1, none⟩ = some (.int .u64 L) := row_cell RA 1
  obtain ⟨gr, hgr⟩ : ∃ g, Wa.heap.size = g := ⟨_, rfl⟩
  have HGS := hid (show w.heap.size ≤ gr from by rw [← hgr]; exact ba.size)
  rw [hgr] at RB
  obtain ⟨h0, h1⟩ := hH
  obtain ⟨l0, l1⟩ := hL
  clear ba bb RA
  go_enter Try.func11, Try.ntmps11
  go_upto_region 1 with fail
  go_big_quiet (fail)
  have RQ := hid (row_on RB.out (bdrewN Wb nq))
  have BQ := hid (btr BB.out (bdrewN Wb nq))
  obtain ⟨V, hV⟩ : ∃ V, Wb.drewN nq = V := ⟨_, rfl⟩
  rw [hV] at RQ BQ ⊢
  clear hV RB BB a0 a1 hWa hWb
  by_cases hH : 9223372036854775808 ≤ H
  · have c1 : decide (9223372036854775808 ≤ H) = true := decide_eq_true hH
    by_cases hL : L = 0
    · subst hL
      have e1 : IntKind.u64.wrap (-H) = 18446744073709551616 - H := by rw [IntKind.wrap_u64]; omega
      obtain ⟨h, hh⟩ : ∃ h, 18446744073709551616 - H = h := ⟨_, rfl⟩
      rw [hh] at e1
      have g0 : 0 ≤ h := by omega
      have g1 : h < 18446744073709551616 := by omega
      have CT := hid (show ∀ W : World, Calls Try.prog 30 #[.slice (some ⟨W.heap.size, 0, none⟩) 4 4] (W.alloc (.cells #[.int .u32 0, .int .u32 0, .int .u32 (h % 4294967296), .int .u32 (h / 4294967296)] 23)) fun e w' => (∃ u, e = .returned u ∧ Bn w' u (h * 18446744073709551616 + 0)) ∧ Below W.heap.size W w' from fun W => trim4 (l := 0) g0 g1 (by decide) (by decide) W)
      by_cases hH9 : H = 9223372036854775808
      · have HH9 := hid hH9
        have CA := hid (amount_no true (h * 18446744073709551616 + 0) (by omega) (by have := pw4; omega))
        clear hH9 hh
        go_upto_region 10 with (first | (go_at_call 30; with_reducible refine (CT.out _).mono ?_; rintro e w2 ⟨⟨u2, rfl, h1⟩, h2⟩; have N2 := hid h1; have R2 := hid (row_on RQ.out h2); have L2 := hid (btr BQ.out h2); clear h1 h2) | (go_at_call 31; with_reducible refine (CA.out _ _ N2.out).mono ?_; rintro e w3 ⟨rfl, h2⟩; have R3 := hid (row_on (row_on R2.out h2) (ball w3 (.cells #[.bool false, .slice none 0 0] 41))); have L3 := hid (btr (btr L2.out h2) (ball w3 (.cells #[.bool false, .slice none 0 0] 41))); clear h2))
        go_wp2_with (refine wpList_store_row (by rfl) 41 (.tmp 2) (.tmp 47) (by rfl) gr #[.bool false, .slice none 0 0] (by rfl) (by rfl) 41 _ R3.out (am_info _ _) (am_size _ _ _ _) (am_all _ _ _ _) ?_)
        refine bodyPost_ret (res_ct Try.results11 _ _ gr 41 #[.bool false, .slice none 0 0] (0, 0) _ (.int .i64 3) (by rfl) (by rfl) (setRow_heap _ _ _ _ 41 (0, 0) R3.out) Try.underlying41 rfl info32) rfl ⟨?_, setRow_below L3.out HGS.out⟩
        exact ⟨_, 0, 3, rfl, am_zero _, .inl ⟨HH9.out, rfl, rfl, rfl⟩⟩

      · obtain ⟨m, hm⟩ : ∃ m, -(h * 18446744073709551616 + 0) = m := ⟨_, rfl⟩
        have HMS := hid (show m = sgn H 0 from by unfold sgn; rw [if_pos hH]; omega)
        have HH9 := hid hH9
        have CA := hid (amount_ok true (h * 18446744073709551616 + 0) (by omega) (by omega) m hm)
        clear hH9 hh hm
        obtain ⟨sb, hsb⟩ : ∃ sb, decide (m < 0) = sb := ⟨_, rfl⟩
        rw [hsb] at CA
        have HSB := hid hsb
        clear hsb
        go_upto_region 9 with (first | (go_at_call 30; with_reducible refine (CT.out _).mono ?_; rintro e w2 ⟨⟨u2, rfl, h1⟩, h2⟩; have N2 := hid h1; have R2 := hid (row_on RQ.out h2); have L2 := hid (btr BQ.out h2); clear h1 h2) | (go_at_call 31; with_reducible refine (CA.out _ _ N2.out).mono ?_; rintro e w3 ⟨⟨u3, rfl, h1⟩, h2⟩; have N3 := hid h1; have R3 := hid (row_on R2.out h2); have L3 := hid (btr L2.out h2); clear h1 h2; obtain ⟨a3, n3, c3, rfl, _⟩ := bn_form N3.out))
        obtain ⟨X, hX⟩ : ∃ X, w3.alloc (.cells #[.bool sb, .slice a3 n3 c3] 41) = X := ⟨_, rfl⟩
        have bX : Below w3.heap.size w3 X := by rw [← hX]; exact ball _ _
        have zX := hid (show X.heap[w3.heap.size]? = some (.cells #[.bool sb, .slice a3 n3 c3] 41 (0, 0)) from by rw [← hX]; exact World.alloc_heap_new _ _)
        have AX := hid (show Am X (.agg #[.bool sb, .slice a3 n3 c3]) m from ⟨_, by rw [HSB.out], N3.out.to bX⟩)
        have RX := hid (row_on R3.out bX)
        have LX := hid (btr L3.out bX)
        have k0 : X.cell? ⟨w3.heap.size, 0, none⟩ = some (.bool sb) := row_cell zX.out 0
        have k1 : X.cell? ⟨w3.heap.size, 1, none⟩ = some (.slice a3 n3 c3) := row_cell zX.out 1
        rw [hX]
        clear hX bX N3 R3 L3
        go_wp2_with (refine wpList_store_row (by rfl) 41 (.tmp 2) (.tmp 48) (by rfl) gr #[.bool sb, .slice a3 n3 c3] (by rfl) (by rfl) 41 _ RX.out (am_info _ _) (am_size _ _ _ _) (am_all _ _ _ _) ?_)
        refine bodyPost_ret (res_ct Try.results11 _ _ gr 41 #[.bool sb, .slice a3 n3 c3] (0, 0) _ (.int .i64 0) (by rfl) (by rfl) (setRow_heap _ _ _ _ 41 (0, 0) RX.out) Try.underlying41 rfl info32) rfl ⟨?_, setRow_below LX.out HGS.out⟩
        exact ⟨_, m, 0, rfl, am_row AX.out RX.out, .inr ⟨fun e => HH9.out e.1, rfl, HMS.out⟩⟩

    · have e0 : (L == 0) = false := by simp [hL]
      have e1 : IntKind.u64.wrap (-L) = 18446744073709551616 - L := by rw [IntKind.wrap_u64]; omega
      have e2 : bits .xor .u64 (if IntKind.u64.signed = true then -1 else IntKind.u64.max) H = 18446744073709551615 - H := not_u64 H h0 h1
      obtain ⟨l, hl⟩ : ∃ k, 18446744073709551616 - L = k := ⟨_, rfl⟩
      obtain ⟨hq, hh⟩ : ∃ hq, 18446744073709551615 - H = hq := ⟨_, rfl⟩
      rw [hl] at e1
      rw [hh] at e2
      have g0 : 0 ≤ hq := by omega
      have g1 : hq < 18446744073709551616 := by omega
      have g2 : 0 ≤ l := by omega
      have g3 : l < 18446744073709551616 := by omega
      have CT := hid (trim4 g0 g1 g2 g3)
      obtain ⟨m, hm⟩ : ∃ m, -(hq * 18446744073709551616 + l) = m := ⟨_, rfl⟩
      have HMS := hid (show m = sgn H L from by unfold sgn; rw [if_pos hH]; omega)
      have HH9 := hid hL
      have CA := hid (amount_ok true (hq * 18446744073709551616 + l) (by omega) (by omega) m hm)
      clear hL hh hl hm
      have E2 := hid e2
      clear e2
      go_upto_region 7 with fail
      rw [E2.out]
      obtain ⟨sb, hsb⟩ : ∃ sb, decide (m < 0) = sb := ⟨_, rfl⟩
      rw [hsb] at CA
      have HSB := hid hsb
      clear hsb
      go_upto_region 9 with (first | (go_at_call 30; with_reducible refine (CT.out _).mono ?_; rintro e w2 ⟨⟨u2, rfl, h1⟩, h2⟩; have N2 := hid h1; have R2 := hid (row_on RQ.out h2); have L2 := hid (btr BQ.out h2); clear h1 h2) | (go_at_call 31; with_reducible refine (CA.out _ _ N2.out).mono ?_; rintro e w3 ⟨⟨u3, rfl, h1⟩, h2⟩; have N3 := hid h1; have R3 := hid (row_on R2.out h2); have L3 := hid (btr L2.out h2); clear h1 h2; obtain ⟨a3, n3, c3, rfl, _⟩ := bn_form N3.out))
      obtain ⟨X, hX⟩ : ∃ X, w3.alloc (.cells #[.bool sb, .slice a3 n3 c3] 41) = X := ⟨_, rfl⟩
      have bX : Below w3.heap.size w3 X := by rw [← hX]; exact ball _ _
      have zX := hid (show X.heap[w3.heap.size]? = some (.cells #[.bool sb, .slice a3 n3 c3] 41 (0, 0)) from by rw [← hX]; exact World.alloc_heap_new _ _)
      have AX := hid (show Am X (.agg #[.bool sb, .slice a3 n3 c3]) m from ⟨_, by rw [HSB.out], N3.out.to bX⟩)
      have RX := hid (row_on R3.out bX)
      have LX := hid (btr L3.out bX)
      have k0 : X.cell? ⟨w3.heap.size, 0, none⟩ = some (.bool sb) := row_cell zX.out 0
      have k1 : X.cell? ⟨w3.heap.size, 1, none⟩ = some (.slice a3 n3 c3) := row_cell zX.out 1
      rw [hX]
      clear hX bX N3 R3 L3
      go_wp2_with (refine wpList_store_row (by rfl) 41 (.tmp 2) (.tmp 48) (by rfl) gr #[.bool sb, .slice a3 n3 c3] (by rfl) (by rfl) 41 _ RX.out (am_info _ _) (am_size _ _ _ _) (am_all _ _ _ _) ?_)
      refine bodyPost_ret (res_ct Try.results11 _ _ gr 41 #[.bool sb, .slice a3 n3 c3] (0, 0) _ (.int .i64 0) (by rfl) (by rfl) (setRow_heap _ _ _ _ 41 (0, 0) RX.out) Try.underlying41 rfl info32) rfl ⟨?_, setRow_below LX.out HGS.out⟩
      exact ⟨_, m, 0, rfl, am_row AX.out RX.out, .inr ⟨fun e => HH9.out e.2, rfl, HMS.out⟩⟩

  · have c1 : decide (9223372036854775808 ≤ H) = false := decide_eq_false hH
    have CT := hid (trim4 h0 h1 l0 l1)
    obtain ⟨m, hm⟩ : ∃ m, H * 18446744073709551616 + L = m := ⟨_, rfl⟩
    have HMS := hid (show m = sgn H L from by unfold sgn; rw [if_neg hH]; omega)
    have HH9 := hid hH
    have CA := hid (amount_ok false (H * 18446744073709551616 + L) (by omega) (by omega) m hm)
    clear hH hm
    obtain ⟨sb, hsb⟩ : ∃ sb, decide (m < 0) = sb := ⟨_, rfl⟩
    rw [hsb] at CA
    have HSB := hid hsb
    clear hsb
    go_upto_region 9 with (first | (go_at_call 30; with_reducible refine (CT.out _).mono ?_; rintro e w2 ⟨⟨u2, rfl, h1⟩, h2⟩; have N2 := hid h1; have R2 := hid (row_on RQ.out h2); have L2 := hid (btr BQ.out h2); clear h1 h2) | (go_at_call 31; with_reducible refine (CA.out _ _ N2.out).mono ?_; rintro e w3 ⟨⟨u3, rfl, h1⟩, h2⟩; have N3 := hid h1; have R3 := hid (row_on R2.out h2); have L3 := hid (btr L2.out h2); clear h1 h2; obtain ⟨a3, n3, c3, rfl, _⟩ := bn_form N3.out))
    obtain ⟨X, hX⟩ : ∃ X, w3.alloc (.cells #[.bool sb, .slice a3 n3 c3] 41) = X := ⟨_, rfl⟩
    have bX : Below w3.heap.size w3 X := by rw [← hX]; exact ball _ _
    have zX := hid (show X.heap[w3.heap.size]? = some (.cells #[.bool sb, .slice a3 n3 c3] 41 (0, 0)) from by rw [← hX]; exact World.alloc_heap_new _ _)
    have AX := hid (show Am X (.agg #[.bool sb, .slice a3 n3 c3]) m from ⟨_, by rw [HSB.out], N3.out.to bX⟩)
    have RX := hid (row_on R3.out bX)
    have LX := hid (btr L3.out bX)
    have k0 : X.cell? ⟨w3.heap.size, 0, none⟩ = some (.bool sb) := row_cell zX.out 0
    have k1 : X.cell? ⟨w3.heap.size, 1, none⟩ = some (.slice a3 n3 c3) := row_cell zX.out 1
    rw [hX]
    clear hX bX N3 R3 L3
    go_wp2_with (refine wpList_store_row (by rfl) 41 (.tmp 2) (.tmp 48) (by rfl) gr #[.bool sb, .slice a3 n3 c3] (by rfl) (by rfl) 41 _ RX.out (am_info _ _) (am_size _ _ _ _) (am_all _ _ _ _) ?_)
    refine bodyPost_ret (res_ct Try.results11 _ _ gr 41 #[.bool sb, .slice a3 n3 c3] (0, 0) _ (.int .i64 0) (by rfl) (by rfl) (setRow_heap _ _ _ _ 41 (0, 0) RX.out) Try.underlying41 rfl info32) rfl ⟨?_, setRow_below LX.out HGS.out⟩
    exact ⟨_, m, 0, rfl, am_row AX.out RX.out, .inr ⟨fun e => by have := HH9.out; omega, rfl, HMS.out⟩⟩
end Go.Proofs.Ytegdhffejmbakaa.Dm
