/-
  DmH
-/
import Derived.Test.YtegdhffejmbakaaDmF
namespace Go.Proofs.Ytegdhffejmbakaa.Dm
open Go.RowKit Go.Deep BigM MonM TexM ParM
set_option linter.unusedVariables false
set_option linter.unusedSimpArgs false
set_option maxHeartbeats 8000000
set_option maxRecDepth 100000
attribute [local go_sem ↓] Go.wp_at_zero Go.wp_at_succ
theorem abs_lim {m : Int} (h : Amt m) : absI m ≤ 170141183460469231731687303715884105727 ∧ 0 ≤ absI m := by obtain ⟨a, b⟩ := h; unfold absI; split <;> omega
theorem bn_row {w : World} {u : Value} {x : Int} {g : Nat} {cs old : Array Value} (h : Bn w u x) (hg : w.heap[g]? = some (.cells old 41 (0, 0))) : Bn (w.setRow g cs) u x := by
  obtain ⟨ds, h1, h2⟩ := h
  refine ⟨ds, ?_, h2⟩
  rcases h1 with h1 | ⟨b, o, cap, e1, l1, l2, ⟨cur, hc⟩, h3⟩
  · exact .inl h1
  · have hne : b ≠ g := fun e => by
      rw [e, hg] at hc
      injection hc with hc
      injection hc with _ hc
      cases hc
    refine .inr ⟨b, o, cap, e1, l1, l2, ⟨cur, by rw [setRow_other w g b cs hne]; exact hc⟩, fun j hj => ?_⟩
    rw [← h3 j hj]
    simp only [World.cell?, setRow_other w g b cs hne]
theorem am_of (U : World) (u : Value) (m : Int) (b : Bool) (hb : b = decide (m < 0)) (h : Bn U u (absI m)) : Am U (.agg #[.bool b, u]) m := ⟨u, by rw [hb], h⟩
theorem rcents_any (n : Int) (w : World) (h0 : -9223372036854775808 ≤ n) (h1 : n ≤ 9223372036854775807) :
    Calls Try.prog 28 #[.int .i64 n] w fun e w' => (∃ v, e = .returned v ∧ Am w' v n) ∧ Below w.heap.size w w' := by
  obtain ⟨W1, hW1⟩ : ∃ W, w.alloc (.cells #[.bool false, .slice none 0 0] 41) = W := ⟨_, rfl⟩
  have B1 := hid (show Below w.heap.size w W1 from by rw [← hW1]; exact ball _ _)
  have R1 := hid (show W1.heap[w.heap.size]? = some (.cells #[.bool false, .slice none 0 0] 41 (0, 0)) from by rw [← hW1]; exact World.alloc_heap_new _ _)
  obtain ⟨g, hg⟩ : ∃ g, w.heap.size = g := ⟨_, rfl⟩
  have HG := hid (Nat.le_of_eq hg)
  rw [hg] at R1
  by_cases hs : n < 0
  · have q1 : IntKind.i64.wrap (n + 1) = n + 1 := by rw [IntKind.wrap_i64]; omega
    have q2 : IntKind.i64.wrap (-(n + 1)) = -(n + 1) := by rw [IntKind.wrap_i64]; omega
    have q3 : IntKind.u64.wrap (-(n + 1)) = -(n + 1) := by rw [IntKind.wrap_u64]; omega
    have q4 : IntKind.u64.wrap (-(n + 1) + 1) = -n := by rw [IntKind.wrap_u64]; omega
    have c0 : decide (n < 0) = true := decide_eq_true hs
    have HN := hid (show true = decide (n < 0) ∧ absI n = -n from ⟨c0.symm, if_pos hs⟩)
    have CO := hid (of_any (-n) W1 ⟨by omega, by omega⟩)
    clear hs h0 h1
    go_enter Try.func28, Try.ntmps28
    go_wp2_with (first | (go_at_call 45; with_reducible refine CO.out.mono ?_; rintro e w2 ⟨⟨u2, rfl, h1⟩, h2⟩; have N2 := hid h1; have R2 := hid (row_on R1.out h2); have B2 := hid (btr B1.out h2); clear h1 h2; obtain ⟨a2, n2, c2, rfl, _⟩ := bn_form N2.out) | (refine wpList_store_row (by rfl) 41 (.tmp 2) (.tmp 11) (by rfl) g #[.bool true, .slice a2 n2 c2] (by rfl) (by rfl) 41 _ R2.out (am_info _ _) (am_size _ _ _ _) (am_all _ _ _ _) ?_))
    refine bodyPost_ret (res_c Try.results28 _ _ g 41 #[.bool true, .slice a2 n2 c2] (0, 0) _ (by rfl) (setRow_heap _ _ _ _ 41 (0, 0) R2.out) Try.underlying41 rfl info32) rfl ⟨?_, setRow_below B2.out HG.out⟩
    exact ⟨_, rfl, am_of _ _ _ _ HN.out.1 (by rw [HN.out.2]; exact bn_row N2.out R2.out)⟩
  · have q3 : IntKind.u64.wrap n = n := by rw [IntKind.wrap_u64]; omega
    have c0 : decide (n < 0) = false := decide_eq_false hs
    have HN := hid (show false = decide (n < 0) ∧ absI n = n from ⟨c0.symm, if_neg hs⟩)
    have CO := hid (of_any n W1 ⟨by omega, by omega⟩)
    clear hs h0 h1
    go_enter Try.func28, Try.ntmps28
    go_wp2_with (first | (go_at_call 45; with_reducible refine CO.out.mono ?_; rintro e w2 ⟨⟨u2, rfl, h1⟩, h2⟩; have N2 := hid h1; have R2 := hid (row_on R1.out h2); have B2 := hid (btr B1.out h2); clear h1 h2; obtain ⟨a2, n2, c2, rfl, _⟩ := bn_form N2.out) | (refine wpList_store_row (by rfl) 41 (.tmp 2) (.tmp 15) (by rfl) g #[.bool false, .slice a2 n2 c2] (by rfl) (by rfl) 41 _ R2.out (am_info _ _) (am_size _ _ _ _) (am_all _ _ _ _) ?_))
    refine bodyPost_ret (res_c Try.results28 _ _ g 41 #[.bool false, .slice a2 n2 c2] (0, 0) _ (by rfl) (setRow_heap _ _ _ _ 41 (0, 0) R2.out) Try.underlying41 rfl info32) rfl ⟨?_, setRow_below B2.out HG.out⟩
    exact ⟨_, rfl, am_of _ _ _ _ HN.out.1 (by rw [HN.out.2]; exact bn_row N2.out R2.out)⟩
end Go.Proofs.Ytegdhffejmbakaa.Dm
