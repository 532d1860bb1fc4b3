/-
  The document's Sign, Neg, Compare, Cents, Times.
-/
import Derived.Test.YthikjpccmplbiaaDmF
namespace Go.Proofs.Ythikjpccmplbiaa.Dm
open Go.RowKit Go.Deep BigM MonM TexM ParM
set_option linter.unusedVariables false
set_option linter.unusedSimpArgs false
set_option maxHeartbeats 8000000

set_option maxRecDepth 100000
attribute [local go_sem ↓] Go.wp_at_zero Go.wp_at_succ
theorem abs_zero (m : Int) : absI m = 0 ↔ m = 0 := by unfold absI; split <;> omega
theorem absI_neg (m : Int) : absI (-m) = absI m := by unfold absI; split <;> split <;> omega
theorem abs_lim {m : Int} (h : Amt m) : absI m ≤ 170141183460469231731687303715884105727 ∧ 0 ≤ absI m := by obtain ⟨a, b⟩ := h; unfold absI; split <;> omega
theorem rsign_any (v : Value) (m : Int) (w : World) (hv : Am w v m) :
    Calls Try.prog 11 #[v] w fun e w' => e = .returned (.int .i64 (Go.Proofs.Ythikjpccmplbiaa.sgn m)) ∧ Below w.heap.size w w' := by
  obtain ⟨u, rfl, hu⟩ := hv
  obtain ⟨a, n, c, rfl, hn⟩ := bn_form hu
  have hl := bn_len hu
  have h0 := hu.nonneg
  have hz := abs_zero m
  clear hu
  by_cases hm : m = 0
  · have hn0 : n = 0 := by have := hz.2 hm; omega
    subst hm hn0
    clear hl hz h0
    go_enter Try.func11, Try.ntmps11
    go_wp2
    go_ret
    exact ⟨rfl, ball _ _⟩
  · have hn0 : 0 < n := by
      have : absI m ≠ 0 := fun e => hm (hz.1 e)
      omega
    obtain ⟨k, rfl⟩ : ∃ k, n = k + 1 := ⟨n - 1, by omega⟩
    by_cases hs : m < 0
    · have e1 : decide (m < 0) = true := decide_eq_true hs
      have e2 : Go.Proofs.Ythikjpccmplbiaa.sgn m = -1 := if_pos hs
      rw [e1, e2]
      clear hl hz h0 hs e1 e2 hm
      go_enter Try.func11, Try.ntmps11
      go_wp2
      go_ret
      exact ⟨rfl, ball _ _⟩
    · have e1 : decide (m < 0) = false := decide_eq_false hs
      have e2 : Go.Proofs.Ythikjpccmplbiaa.sgn m = 1 := by unfold Go.Proofs.Ythikjpccmplbiaa.sgn; rw [if_neg hs, if_pos (by omega)]
      rw [e1, e2]
      clear hl hz h0 hs e1 e2 hm
      go_enter Try.func11, Try.ntmps11
      go_wp2
      go_ret
      exact ⟨rfl, ball _ _⟩
/-- an amount's opposite, of the document's. -/
theorem rneg_any (v : Value) (m : Int) (w : World) (hv : Am w v m) :
    Calls Try.prog 27 #[v] w fun e w' => (∃ v', e = .returned v' ∧ Am w' v' (-m)) ∧ Below w.heap.size w w' := by
  obtain ⟨u, rfl, hu⟩ := hv
  obtain ⟨a, n, c, rfl, hn⟩ := bn_form hu
  obtain ⟨b, hb⟩ : ∃ b, decide (m < 0) = b := ⟨_, rfl⟩
  rw [hb]
  obtain ⟨Wa, hWa⟩ : ∃ W, w.alloc (.cells #[.bool b, .slice a n c] 31) = W := ⟨_, rfl⟩
  obtain ⟨Wb, hWb⟩ : ∃ W, Wa.alloc (.cells #[.bool false, .slice none 0 0] 31) = W := ⟨_, rfl⟩
  have ba : Below w.heap.size w Wa := by rw [← hWa]; exact ball _ _
  have bb : Below Wa.heap.size Wa Wb := by rw [← hWb]; exact ball _ _
  have ra := row_on (show Wa.heap[w.heap.size]? = some (.cells #[.bool b, .slice a n c] 31 (0, 0)) from by rw [← hWa]; exact World.alloc_heap_new _ _) bb
  have RB := hid (show Wb.heap[Wa.heap.size]? = some (.cells #[.bool false, .slice none 0 0] 31 (0, 0)) from by rw [← hWb]; exact World.alloc_heap_new _ _)
  have HG := hid ba.size
  have BB := hid (btr ba bb)
  have a0 : Wb.cell? ⟨w.heap.size, 0, none⟩ = some (.bool b) := row_cell ra 0
  have a1 : Wb.cell? ⟨w.heap.size, 1, none⟩ = some (.slice a n c) := row_cell ra 1
  obtain ⟨g, hg⟩ : ∃ g, Wa.heap.size = g := ⟨_, rfl⟩
  rw [hg] at RB HG
  have hl := bn_len hu
  have h0 := hu.nonneg
  have hz := abs_zero m
  have HN := hid (show ∀ r, r = decide (-m < 0) → Am (Wb.setRow g #[.bool r, .slice a n c]) (.agg #[.bool r, .slice a n c]) (-m) from fun r hr => ⟨.slice a n c, by rw [hr], by
    rw [absI_neg]
    exact hu.to (setRow_below BB.out HG.out)⟩)
  have HP := hid (show 0 < n ↔ m ≠ 0 from by
    constructor
    · intro h e; have := hz.2 e; omega
    · intro h
      have : absI m ≠ 0 := fun e => h (hz.1 e)
      omega)
  have HB := hid hb
  clear hu hb ra ba bb hl h0 hz
  cases b with
  | true =>
    have HR := hid (show false = decide (-m < 0) from by have := of_decide_eq_true HB.out; symm; rw [decide_eq_false_iff_not]; omega)
    go_enter Try.func27, Try.ntmps27
    go_wp2_with (refine wpList_store_row (by rfl) 31 (.tmp 2) (.tmp 14) (by rfl) g #[.bool false, .slice a n c] (by rfl) (by rfl) 31 _ RB.out (am_info _ _) (am_size _ _ _ _) (am_all _ _ _ _) ?_)
    refine bodyPost_ret (res_c Try.results27 _ _ g 31 #[.bool false, .slice a n c] (0, 0) _ (by rfl) (setRow_heap _ _ _ _ 31 (0, 0) RB.out) Try.underlying31 rfl info32) rfl ⟨?_, setRow_below BB.out HG.out⟩
    exact ⟨_, rfl, HN.out _ HR.out⟩
  | false =>
    by_cases hn0 : 0 < n
    · have HR := hid (show true = decide (-m < 0) from by have := of_decide_eq_false HB.out; have := HP.out.1 hn0; symm; rw [decide_eq_true_iff]; omega)
      have c0 : decide (0 < n) = true := decide_eq_true hn0
      go_enter Try.func27, Try.ntmps27
      go_wp2_with (refine wpList_store_row (by rfl) 31 (.tmp 2) (.tmp 14) (by rfl) g #[.bool true, .slice a n c] (by rfl) (by rfl) 31 _ RB.out (am_info _ _) (am_size _ _ _ _) (am_all _ _ _ _) ?_)
      refine bodyPost_ret (res_c Try.results27 _ _ g 31 #[.bool true, .slice a n c] (0, 0) _ (by rfl) (setRow_heap _ _ _ _ 31 (0, 0) RB.out) Try.underlying31 rfl info32) rfl ⟨?_, setRow_below BB.out HG.out⟩
      exact ⟨_, rfl, HN.out _ HR.out⟩
    · have HR := hid (show false = decide (-m < 0) from by
        have e : m = 0 := Classical.byContradiction fun h => hn0 (HP.out.2 h)
        rw [e]; rfl)
      have c0 : decide (0 < n) = false := decide_eq_false hn0
      go_enter Try.func27, Try.ntmps27
      go_wp2_with (refine wpList_store_row (by rfl) 31 (.tmp 2) (.tmp 14) (by rfl) g #[.bool false, .slice a n c] (by rfl) (by rfl) 31 _ RB.out (am_info _ _) (am_size _ _ _ _) (am_all _ _ _ _) ?_)
      refine bodyPost_ret (res_c Try.results27 _ _ g 31 #[.bool false, .slice a n c] (0, 0) _ (by rfl) (setRow_heap _ _ _ _ 31 (0, 0) RB.out) Try.underlying31 rfl info32) rfl ⟨?_, setRow_below BB.out HG.out⟩
      exact ⟨_, rfl, HN.out _ HR.out⟩
theorem bn_row {w : World} {u : Value} {x : Int} {g : Nat} {cs old : Array Value} (h : Bn w u x) (hg : w.heap[g]? = some (.cells old 31 (0, 0))) : Bn (w.setRow g cs) u x := by
  obtain ⟨ds, h1, h2⟩ := h
  refine ⟨ds, ?_, h2⟩
  rcases h1 with h1 | ⟨b, o, cap, e1, l1, l2, ⟨cur, hc⟩, h3⟩
  · exact .inl h1
  · have hne : b ≠ g := fun e => by
      rw [e, hg] at hc
      injection hc with hc
      injection hc with _ hc
      cases hc
    refine .inr ⟨b, o, cap, e1, l1, l2, ⟨cur, by rw [setRow_other w g b cs hne]; exact hc⟩, fun j hj => ?_⟩
    rw [← h3 j hj]
    simp only [World.cell?, setRow_other w g b cs hne]
theorem am_of (U : World) (u : Value) (m : Int) (b : Bool) (hb : b = decide (m < 0)) (h : Bn U u (absI m)) : Am U (.agg #[.bool b, u]) m := ⟨u, by rw [hb], h⟩
theorem rcents_any (n : Int) (w : World) (h0 : -9223372036854775808 ≤ n) (h1 : n ≤ 9223372036854775807) :
    Calls Try.prog 15 #[.int .i64 n] w fun e w' => (∃ v, e = .returned v ∧ Am w' v n) ∧ Below w.heap.size w w' := by
  obtain ⟨W1, hW1⟩ : ∃ W, w.alloc (.cells #[.bool false, .slice none 0 0] 31) = W := ⟨_, rfl⟩
  have B1 := hid (show Below w.heap.size w W1 from by rw [← hW1]; exact ball _ _)
  have R1 := hid (show W1.heap[w.heap.size]? = some (.cells #[.bool false, .slice none 0 0] 31 (0, 0)) from by rw [← hW1]; exact World.alloc_heap_new _ _)
  obtain ⟨g, hg⟩ : ∃ g, w.heap.size = g := ⟨_, rfl⟩
  have HG := hid (Nat.le_of_eq hg)
  rw [hg] at R1
  by_cases hs : n < 0
  · have q1 : IntKind.i64.wrap (n + 1) = n + 1 := by rw [IntKind.wrap_i64]; omega
    have q2 : IntKind.i64.wrap (-(n + 1)) = -(n + 1) := by rw [IntKind.wrap_i64]; omega
    have q3 : IntKind.u64.wrap (-(n + 1)) = -(n + 1) := by rw [IntKind.wrap_u64]; omega
    have q4 : IntKind.u64.wrap (-(n + 1) + 1) = -n := by rw [IntKind.wrap_u64]; omega
    have c0 : decide (n < 0) = true := decide_eq_true hs
    have HN := hid (show true = decide (n < 0) ∧ absI n = -n from ⟨c0.symm, if_pos hs⟩)
    have CO := hid (of_any (-n) W1 ⟨by omega, by omega⟩)
    clear hs h0 h1
    go_enter Try.func15, Try.ntmps15
    go_wp2_with (first | (go_at_call 35; with_reducible refine CO.out.mono ?_; rintro e w2 ⟨⟨u2, rfl, h1⟩, h2⟩; have N2 := hid h1; have R2 := hid (row_on R1.out h2); have B2 := hid (btr B1.out h2); clear h1 h2; obtain ⟨a2, n2, c2, rfl, _⟩ := bn_form N2.out) | (refine wpList_store_row (by rfl) 31 (.tmp 2) (.tmp 11) (by rfl) g #[.bool true, .slice a2 n2 c2] (by rfl) (by rfl) 31 _ R2.out (am_info _ _) (am_size _ _ _ _) (am_all _ _ _ _) ?_))
    refine bodyPost_ret (res_c Try.results15 _ _ g 31 #[.bool true, .slice a2 n2 c2] (0, 0) _ (by rfl) (setRow_heap _ _ _ _ 31 (0, 0) R2.out) Try.underlying31 rfl info32) rfl ⟨?_, setRow_below B2.out HG.out⟩
    exact ⟨_, rfl, am_of _ _ _ _ HN.out.1 (by rw [HN.out.2]; exact bn_row N2.out R2.out)⟩
  · have q3 : IntKind.u64.wrap n = n := by rw [IntKind.wrap_u64]; omega
    have c0 : decide (n < 0) = false := decide_eq_false hs
    have HN := hid (show false = decide (n < 0) ∧ absI n = n from ⟨c0.symm, if_neg hs⟩)
    have CO := hid (of_any n W1 ⟨by omega, by omega⟩)
    clear hs h0 h1
    go_enter Try.func15, Try.ntmps15
    go_wp2_with (first | (go_at_call 35; with_reducible refine CO.out.mono ?_; rintro e w2 ⟨⟨u2, rfl, h1⟩, h2⟩; have N2 := hid h1; have R2 := hid (row_on R1.out h2); have B2 := hid (btr B1.out h2); clear h1 h2; obtain ⟨a2, n2, c2, rfl, _⟩ := bn_form N2.out) | (refine wpList_store_row (by rfl) 31 (.tmp 2) (.tmp 15) (by rfl) g #[.bool false, .slice a2 n2 c2] (by rfl) (by rfl) 31 _ R2.out (am_info _ _) (am_size _ _ _ _) (am_all _ _ _ _) ?_))
    refine bodyPost_ret (res_c Try.results15 _ _ g 31 #[.bool false, .slice a2 n2 c2] (0, 0) _ (by rfl) (setRow_heap _ _ _ _ 31 (0, 0) R2.out) Try.underlying31 rfl info32) rfl ⟨?_, setRow_below B2.out HG.out⟩
    exact ⟨_, rfl, am_of _ _ _ _ HN.out.1 (by rw [HN.out.2]; exact bn_row N2.out R2.out)⟩
theorem rtimes_any (p q : Int) (w : World) (hp0 : 0 ≤ p) (hp1 : p < 4294967296) (hq : Word q) :
    Calls Try.prog 17 #[.int .u32 p, .int .u64 q] w fun e w' => (∃ v, e = .returned v ∧ Am w' v (p * q)) ∧ Below w.heap.size w w' := by
  obtain ⟨W1, hW1⟩ : ∃ W, w.alloc (.cells #[.bool false, .slice none 0 0] 31) = W := ⟨_, rfl⟩
  have B1 := hid (show Below w.heap.size w W1 from by rw [← hW1]; exact ball _ _)
  have R1 := hid (show W1.heap[w.heap.size]? = some (.cells #[.bool false, .slice none 0 0] 31 (0, 0)) from by rw [← hW1]; exact World.alloc_heap_new _ _)
  obtain ⟨g, hg⟩ : ∃ g, w.heap.size = g := ⟨_, rfl⟩
  have HG := hid (Nat.le_of_eq hg)
  rw [hg] at R1
  have h0 : 0 ≤ p * q := Int.mul_nonneg hp0 hq.1
  have HN := hid (show false = decide (p * q < 0) ∧ absI (p * q) = p * q from ⟨by symm; rw [decide_eq_false_iff_not]; omega, if_neg (by omega)⟩)
  have HX := hid (show p < pw 1000 ∧ q < pw 1000 from by have := pw4; have := hq.2; omega)
  have CO := hid (of_any p W1 ⟨by omega, by omega⟩)
  have CP := hid (fun U => of_any q U hq)
  clear h0
  go_enter Try.func17, Try.ntmps17
  go_wp2_with (first | (go_at_call 35; with_reducible refine CO.out.mono ?_; rintro e w2 ⟨⟨u2, rfl, h1⟩, h2⟩; have N2 := hid h1; have R2 := hid (row_on R1.out h2); have B2 := hid (btr B1.out h2); clear CO h1 h2) | (go_at_call 35; with_reducible refine (CP.out _).mono ?_; rintro e w3 ⟨⟨u3, rfl, h1⟩, h2⟩; have N3 := hid h1; have M3 := hid (N2.out.to h2); have R3 := hid (row_on R2.out h2); have B3 := hid (btr B2.out h2); clear h1 h2) | (go_at_call 37; with_reducible refine (times_any _ _ _ _ _ M3.out N3.out HX.out.1 HX.out.2).mono ?_; rintro e w4 ⟨⟨u4, rfl, h1⟩, h2⟩; have N4 := hid h1; have R4 := hid (row_on R3.out h2); have B4 := hid (btr B3.out h2); clear h1 h2; obtain ⟨a2, n2, c2, rfl, _⟩ := bn_form N4.out) | (refine wpList_store_row (by rfl) 31 (.tmp 4) (.tmp 11) (by rfl) g #[.bool false, .slice a2 n2 c2] (by rfl) (by rfl) 31 _ R4.out (am_info _ _) (am_size _ _ _ _) (am_all _ _ _ _) ?_))
  refine bodyPost_ret (res_c Try.results17 _ _ g 31 #[.bool false, .slice a2 n2 c2] (0, 0) _ (by rfl) (setRow_heap _ _ _ _ 31 (0, 0) R4.out) Try.underlying31 rfl info32) rfl ⟨?_, setRow_below B4.out HG.out⟩
  exact ⟨_, rfl, am_of _ _ _ _ HN.out.1 (by rw [HN.out.2]; exact bn_row N4.out R4.out)⟩
/-- compared, of the document's. -/
theorem rcompare_any (v u : Value) (m k : Int) (w : World) (hv : Am w v m) (hu : Am w u k) (hm : Amt m) (hk : Amt k) :
    Calls Try.prog 13 #[v, u] w fun e w' => e = .returned (.int .i64 (cmpI m k)) ∧ Below w.heap.size w w' := by
  obtain ⟨v, rfl, hv⟩ := hv
  obtain ⟨u, rfl, hu⟩ := hu
  obtain ⟨a, n, c, rfl, hn⟩ := bn_form hv
  obtain ⟨a', n', c', rfl, hn'⟩ := bn_form hu
  have l1 := abs_lim hm
  have l2 := abs_lim hk
  have p9 := pw4
  obtain ⟨b, hb⟩ : ∃ b, decide (m < 0) = b := ⟨_, rfl⟩
  obtain ⟨d, hd⟩ : ∃ d, decide (k < 0) = d := ⟨_, rfl⟩
  rw [hb, hd]
  obtain ⟨Wa, hWa⟩ : ∃ W, w.alloc (.cells #[.bool b, .slice a n c] 31) = W := ⟨_, rfl⟩
  obtain ⟨Wb, hWb⟩ : ∃ W, Wa.alloc (.cells #[.bool d, .slice a' n' c'] 31) = W := ⟨_, rfl⟩
  have ba : Below w.heap.size w Wa := by rw [← hWa]; exact ball _ _
  have bb : Below Wa.heap.size Wa Wb := by rw [← hWb]; exact ball _ _
  have ra := row_on (show Wa.heap[w.heap.size]? = some (.cells #[.bool b, .slice a n c] 31 (0, 0)) from by rw [← hWa]; exact World.alloc_heap_new _ _) bb
  have rb : Wb.heap[Wa.heap.size]? = some (.cells #[.bool d, .slice a' n' c'] 31 (0, 0)) := by rw [← hWb]; exact World.alloc_heap_new _ _
  have BB := hid (btr ba bb)
  have a0 : Wb.cell? ⟨w.heap.size, 0, none⟩ = some (.bool b) := row_cell ra 0
  have a1 : Wb.cell? ⟨w.heap.size, 1, none⟩ = some (.slice a n c) := row_cell ra 1
  have e0 : Wb.cell? ⟨Wa.heap.size, 0, none⟩ = some (.bool d) := row_cell rb 0
  have e1 : Wb.cell? ⟨Wa.heap.size, 1, none⟩ = some (.slice a' n' c') := row_cell rb 1
  have CC := hid (compare_any Wb (.slice a n c) (.slice a' n' c') (absI m) (absI k) (hv.to BB.out) (hu.to BB.out) (by omega) (by omega))
  have RA := hid ra
  have HB := hid hb
  have HD := hid hd
  clear hv hu ba bb ra rb l1 l2 p9 hm hk hb hd
  cases b with
  | true =>
    have h1 := of_decide_eq_true HB.out
    cases d with
    | false =>
      have h2 := of_decide_eq_false HD.out
      have er : cmpI m k = -1 := if_pos (by omega)
      rw [er]
      clear h1 h2
      go_enter Try.func13, Try.ntmps13
      go_wp2
      go_ret
      exact ⟨rfl, BB.out⟩
    | true =>
      have h2 := of_decide_eq_true HD.out
      obtain ⟨r, hr⟩ : ∃ r, cmpI (absI m) (absI k) = r := ⟨_, rfl⟩
      have er : cmpI m k = -r := by rw [← hr]; unfold cmpI absI; rw [if_pos h1, if_pos h2]; repeat' split <;> omega
      have r3 : r = -1 ∨ r = 0 ∨ r = 1 := by rw [← hr]; unfold cmpI; split <;> (try split) <;> simp
      have wr : IntKind.i64.wrap (-r) = -r := by rw [IntKind.wrap_i64]; omega
      rw [er]
      rw [hr] at CC
      clear h1 h2 hr er r3
      go_enter Try.func13, Try.ntmps13
      go_wp2_with (go_at_call 34; with_reducible refine CC.out.mono ?_; rintro e w2 ⟨rfl, k, h2⟩; have B2 := hid (show Below Wb.heap.size Wb w2 from by rw [h2]; exact bdrewN _ _); have r0 := row_cell (row_on RA.out B2.out) 0; clear h2)
      go_ret
      exact ⟨rfl, btr BB.out B2.out⟩
  | false =>
    have h1 := of_decide_eq_false HB.out
    cases d with
    | true =>
      have h2 := of_decide_eq_true HD.out
      have er : cmpI m k = 1 := by unfold cmpI; rw [if_neg (by omega), if_pos (by omega)]
      rw [er]
      clear h1 h2
      go_enter Try.func13, Try.ntmps13
      go_wp2
      go_ret
      exact ⟨rfl, BB.out⟩
    | false =>
      have h2 := of_decide_eq_false HD.out
      obtain ⟨r, hr⟩ : ∃ r, cmpI (absI m) (absI k) = r := ⟨_, rfl⟩
      have er : cmpI m k = r := by rw [← hr]; unfold absI; rw [if_neg h1, if_neg h2]
      rw [er]
      rw [hr] at CC
      clear h1 h2 hr er
      go_enter Try.func13, Try.ntmps13
      go_wp2_with (go_at_call 34; with_reducible refine CC.out.mono ?_; rintro e w2 ⟨rfl, k, h2⟩; have B2 := hid (show Below Wb.heap.size Wb w2 from by rw [h2]; exact bdrewN _ _); have r0 := row_cell (row_on RA.out B2.out) 0; clear h2)
      go_ret
      exact ⟨rfl, btr BB.out B2.out⟩
end Go.Proofs.Ythikjpccmplbiaa.Dm
