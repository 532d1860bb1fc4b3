/-
  Whether a deal can be booked.
-/
import Derived.Test.YtdbnkidfclgnfaaAcP
namespace Go.Proofs.Ytdbnkidfclgnfaa.Ac
open Go.RowKit Go.Deep Go.Maps Go.Proofs.Ytdbnkidfclgnfaa.MonM
set_option linter.unusedVariables false
set_option linter.unusedSimpArgs false
set_option maxHeartbeats 8000000
set_option maxRecDepth 100000
attribute [local go_sem ↓] Go.wp_at_zero Go.wp_at_succ
/-- a deal. -/
structure De where
  it : Int
  bu : Int
  se : Int
  ta : Int
  pr : Int
  qt : Int
def De.row (d : De) : Array Value := #[.int .u32 d.it, .int .u32 d.bu, .int .u32 d.se, .int .i64 d.ta, .int .i64 d.pr, .int .u64 d.qt]
structure DeOk (d : De) : Prop where
  it : U32 d.it
  bu : U32 d.bu
  se : U32 d.se
  q0 : 0 ≤ d.qt
  q1 : d.qt < 18446744073709551616
/-- why it can't be booked, whatever positions there are. -/
def bkc (s : Ls) (d : De) : Int :=
  if (s.f (d.bu, 1)).isSome = false ∨ (s.f (d.se, 1)).isSome = false then 200
  else if d.ta ≠ 1 ∧ d.ta ≠ 2 then 92
  else if isPr d.pr = false then 94
  else if d.qt < 1 ∨ 4294967295 < d.qt then 95 else 0

theorem times_any (p q : Int) (w : World) (hp0 : 0 ≤ p) (hp1 : p < 262144) (hq0 : 0 ≤ q) (hq1 : q < 4294967296) :
    Calls Try.prog 18 #[.int .u32 p, .int .u64 q] w fun e w' => e = .returned (mv (p * q)) ∧ Below w.heap.size w w' := by
  have hp : Word p := ⟨hp0, by omega⟩
  have hq : Word q := ⟨hq0, by omega⟩
  have h0 : 0 ≤ p * q := Int.mul_nonneg hp0 hq0
  have h1 : p * q ≤ 262144 * 4294967296 := Int.mul_le_mul (by omega) (by omega) hq0 (by omega)
  have e1 : mulH p q = hiW (p * q) := by unfold mulH hiW; omega
  have e2 : mulL p q = loW (p * q) := rfl
  have C := hid (fun w => mul64_any p q w hp hq)
  rw [e1, e2] at C
  clear e1 e2 hp hq h0 h1 hq0 hq1
  go_enter Try.func18, Try.ntmps18
  go_wp2_with fail
  refine (C.out _).mono ?_; rintro e w1 ⟨rfl, rfl⟩
  go_wp2
  exact bodyPost_ret (v := mv (p * q)) (by simp [results, Try.results18, go_sem]) rfl ⟨rfl, (Below.refl _ _).alloc (Nat.le_refl _) _⟩
theorem bookable_any {w : World} {G : Nat} {O : Nat → Prop} {k : Nat} {s : Ls} (h : Lg w G O k s) (d : De) (hd : DeOk d) :
    Calls Try.prog 17 #[.pointer (some ⟨G, 0, none⟩), .agg d.row] w fun e w' => e = .returned (.int .i64 (bkc s d)) ∧ Below w.heap.size w w' := by
  obtain ⟨Wa, hWa⟩ : ∃ W, w.alloc (.cells d.row 32) = W := ⟨_, rfl⟩
  obtain ⟨R, hR⟩ : ∃ R, w.heap.size = R := ⟨_, rfl⟩
  have HBA := hid (show Below w.heap.size w Wa from by rw [← hWa]; exact ball _ _)
  have HRA := hid (show Wa.heap[R]? = some (.cells d.row 32 (0, 0)) from by rw [← hWa, ← hR]; exact World.alloc_heap_new _ _)
  have CB := hid (show ∀ U, Below w.heap.size w U → Calls Try.prog 26 #[.pointer (some ⟨G, 0, none⟩), .int .u32 d.bu] U fun e w' => e = .returned (.bool (s.f (d.bu, 1)).isSome) ∧ Hid (Below U.heap.size U w') from fun U hU => isOpen_any (h.on hU) d.bu hd.bu)
  have CSe := hid (show ∀ U, Below w.heap.size w U → Calls Try.prog 26 #[.pointer (some ⟨G, 0, none⟩), .int .u32 d.se] U fun e w' => e = .returned (.bool (s.f (d.se, 1)).isSome) ∧ Hid (Below U.heap.size U w') from fun U hU => isOpen_any (h.on hU) d.se hd.se)
  have CI := hid (show ∀ U, Calls Try.prog 31 #[.int .i64 d.pr] U fun e w' => e = .returned (.bool (isPr d.pr)) ∧ w' = U from fun U => isPrice_any d.pr U)
  unfold bkc
  obtain ⟨it, bu, se, ta, pr, qt⟩ := d
  unfold De.row at HRA hWa ⊢
  simp only at HRA hWa CB CSe CI ⊢
  obtain ⟨b1, hb1⟩ : ∃ x, (s.f (bu, 1)).isSome = x := ⟨_, rfl⟩
  obtain ⟨b2, hb2⟩ : ∃ x, (s.f (se, 1)).isSome = x := ⟨_, rfl⟩
  obtain ⟨b3, hb3⟩ : ∃ x, isPr pr = x := ⟨_, rfl⟩
  rw [hb1] at CB ⊢
  rw [hb2] at CSe ⊢
  rw [hb3] at CI ⊢
  clear hb1 hb2 hb3
  have d1 := row_cell HRA.out 1
  simp only [List.getElem?_toArray, List.getElem?_cons_succ, List.getElem?_cons_zero] at d1
  have HWa := hid hWa
  have HR := hid hR
  clear hWa hR h hd
  cases b1 with
  | false =>
    have hc : (if false = false ∨ b2 = false then (200 : Int) else if ta ≠ 1 ∧ ta ≠ 2 then 92 else if b3 = false then 94 else if qt < 1 ∨ 4294967295 < qt then 95 else 0) = 200 := by simp
    rw [hc]
    clear hc
    go_enter Try.func17, Try.ntmps17
    go_upto_region 1 with fail
    rw [HWa.out, HR.out]
    clear HWa
    go_wp2_with (first | (go_at_call 26; with_reducible refine (CB.out Wa HBA.out).mono ?_; rintro e w4 ⟨rfl, hb⟩; have HDa := hid (row_on HRA.out hb.out); have pa2 := row_cell HDa.out 2; have pa3 := row_cell HDa.out 3; have pa4 := row_cell HDa.out 4; have pa5 := row_cell HDa.out 5; simp only [List.getElem?_toArray, List.getElem?_cons_succ, List.getElem?_cons_zero] at pa2 pa3 pa4 pa5; have HB4 := hid (btr HBA.out hb.out); clear hb) | (go_at_call 26; with_reducible refine (CSe.out w4 HB4.out).mono ?_; rintro e w5 ⟨rfl, hb⟩; have HDb := hid (row_on HDa.out hb.out); have pb2 := row_cell HDb.out 2; have pb3 := row_cell HDb.out 3; have pb4 := row_cell HDb.out 4; have pb5 := row_cell HDb.out 5; simp only [List.getElem?_toArray, List.getElem?_cons_succ, List.getElem?_cons_zero] at pb2 pb3 pb4 pb5; have HB5 := hid (btr HB4.out hb.out); clear hb) | (go_at_call 31; with_reducible refine (CI.out _).mono ?_; rintro e w6 ⟨rfl, rfl⟩))
    go_ret
    exact ⟨rfl, HB4.out⟩
  | true =>
  cases b2 with
  | false =>
    have hc : (if true = false ∨ false = false then (200 : Int) else if ta ≠ 1 ∧ ta ≠ 2 then 92 else if b3 = false then 94 else if qt < 1 ∨ 4294967295 < qt then 95 else 0) = 200 := by simp
    rw [hc]
    clear hc
    go_enter Try.func17, Try.ntmps17
    go_upto_region 1 with fail
    rw [HWa.out, HR.out]
    clear HWa
    go_wp2_with (first | (go_at_call 26; with_reducible refine (CB.out Wa HBA.out).mono ?_; rintro e w4 ⟨rfl, hb⟩; have HDa := hid (row_on HRA.out hb.out); have pa2 := row_cell HDa.out 2; have pa3 := row_cell HDa.out 3; have pa4 := row_cell HDa.out 4; have pa5 := row_cell HDa.out 5; simp only [List.getElem?_toArray, List.getElem?_cons_succ, List.getElem?_cons_zero] at pa2 pa3 pa4 pa5; have HB4 := hid (btr HBA.out hb.out); clear hb) | (go_at_call 26; with_reducible refine (CSe.out w4 HB4.out).mono ?_; rintro e w5 ⟨rfl, hb⟩; have HDb := hid (row_on HDa.out hb.out); have pb2 := row_cell HDb.out 2; have pb3 := row_cell HDb.out 3; have pb4 := row_cell HDb.out 4; have pb5 := row_cell HDb.out 5; simp only [List.getElem?_toArray, List.getElem?_cons_succ, List.getElem?_cons_zero] at pb2 pb3 pb4 pb5; have HB5 := hid (btr HB4.out hb.out); clear hb) | (go_at_call 31; with_reducible refine (CI.out _).mono ?_; rintro e w6 ⟨rfl, rfl⟩))
    go_ret
    exact ⟨rfl, HB5.out⟩
  | true =>
  by_cases t1 : ta = 1
  · have e1 : (ta != 1) = false := by simpa using t1
    have T1 := hid t1
    clear t1
    cases b3 with
    | false =>
      have hc : (if true = false ∨ true = false then (200 : Int) else if ta ≠ 1 ∧ ta ≠ 2 then 92 else if false = false then 94 else if qt < 1 ∨ 4294967295 < qt then 95 else 0) = 94 := by simp [T1.out]
      rw [hc]
      clear hc
      go_enter Try.func17, Try.ntmps17
      go_upto_region 1 with fail
      rw [HWa.out, HR.out]
      clear HWa
      go_wp2_with (first | (go_at_call 26; with_reducible refine (CB.out Wa HBA.out).mono ?_; rintro e w4 ⟨rfl, hb⟩; have HDa := hid (row_on HRA.out hb.out); have pa2 := row_cell HDa.out 2; have pa3 := row_cell HDa.out 3; have pa4 := row_cell HDa.out 4; have pa5 := row_cell HDa.out 5; simp only [List.getElem?_toArray, List.getElem?_cons_succ, List.getElem?_cons_zero] at pa2 pa3 pa4 pa5; have HB4 := hid (btr HBA.out hb.out); clear hb) | (go_at_call 26; with_reducible refine (CSe.out w4 HB4.out).mono ?_; rintro e w5 ⟨rfl, hb⟩; have HDb := hid (row_on HDa.out hb.out); have pb2 := row_cell HDb.out 2; have pb3 := row_cell HDb.out 3; have pb4 := row_cell HDb.out 4; have pb5 := row_cell HDb.out 5; simp only [List.getElem?_toArray, List.getElem?_cons_succ, List.getElem?_cons_zero] at pb2 pb3 pb4 pb5; have HB5 := hid (btr HB4.out hb.out); clear hb) | (go_at_call 31; with_reducible refine (CI.out _).mono ?_; rintro e w6 ⟨rfl, rfl⟩))
      go_ret
      exact ⟨rfl, HB5.out⟩
    | true =>
    by_cases q1 : qt < 1
    · have e5 : decide (qt < 1) = true := by simpa using q1
      have hc : (if true = false ∨ true = false then (200 : Int) else if ta ≠ 1 ∧ ta ≠ 2 then 92 else if true = false then 94 else if qt < 1 ∨ 4294967295 < qt then 95 else 0) = 95 := by simp [T1.out, q1]
      rw [hc]
      clear hc
      go_enter Try.func17, Try.ntmps17
      go_upto_region 1 with fail
      rw [HWa.out, HR.out]
      clear HWa
      go_wp2_with (first | (go_at_call 26; with_reducible refine (CB.out Wa HBA.out).mono ?_; rintro e w4 ⟨rfl, hb⟩; have HDa := hid (row_on HRA.out hb.out); have pa2 := row_cell HDa.out 2; have pa3 := row_cell HDa.out 3; have pa4 := row_cell HDa.out 4; have pa5 := row_cell HDa.out 5; simp only [List.getElem?_toArray, List.getElem?_cons_succ, List.getElem?_cons_zero] at pa2 pa3 pa4 pa5; have HB4 := hid (btr HBA.out hb.out); clear hb) | (go_at_call 26; with_reducible refine (CSe.out w4 HB4.out).mono ?_; rintro e w5 ⟨rfl, hb⟩; have HDb := hid (row_on HDa.out hb.out); have pb2 := row_cell HDb.out 2; have pb3 := row_cell HDb.out 3; have pb4 := row_cell HDb.out 4; have pb5 := row_cell HDb.out 5; simp only [List.getElem?_toArray, List.getElem?_cons_succ, List.getElem?_cons_zero] at pb2 pb3 pb4 pb5; have HB5 := hid (btr HB4.out hb.out); clear hb) | (go_at_call 31; with_reducible refine (CI.out _).mono ?_; rintro e w6 ⟨rfl, rfl⟩))
      go_ret
      exact ⟨rfl, HB5.out⟩
    · have e5 : decide (qt < 1) = false := by simpa using q1
      by_cases q2 : 4294967295 < qt
      · have e6 : decide (4294967295 < qt) = true := by simpa using q2
        have hc : (if true = false ∨ true = false then (200 : Int) else if ta ≠ 1 ∧ ta ≠ 2 then 92 else if true = false then 94 else if qt < 1 ∨ 4294967295 < qt then 95 else 0) = 95 := by simp [T1.out, q2]
        rw [hc]
        clear hc
        go_enter Try.func17, Try.ntmps17
        go_upto_region 1 with fail
        rw [HWa.out, HR.out]
        clear HWa
        go_wp2_with (first | (go_at_call 26; with_reducible refine (CB.out Wa HBA.out).mono ?_; rintro e w4 ⟨rfl, hb⟩; have HDa := hid (row_on HRA.out hb.out); have pa2 := row_cell HDa.out 2; have pa3 := row_cell HDa.out 3; have pa4 := row_cell HDa.out 4; have pa5 := row_cell HDa.out 5; simp only [List.getElem?_toArray, List.getElem?_cons_succ, List.getElem?_cons_zero] at pa2 pa3 pa4 pa5; have HB4 := hid (btr HBA.out hb.out); clear hb) | (go_at_call 26; with_reducible refine (CSe.out w4 HB4.out).mono ?_; rintro e w5 ⟨rfl, hb⟩; have HDb := hid (row_on HDa.out hb.out); have pb2 := row_cell HDb.out 2; have pb3 := row_cell HDb.out 3; have pb4 := row_cell HDb.out 4; have pb5 := row_cell HDb.out 5; simp only [List.getElem?_toArray, List.getElem?_cons_succ, List.getElem?_cons_zero] at pb2 pb3 pb4 pb5; have HB5 := hid (btr HB4.out hb.out); clear hb) | (go_at_call 31; with_reducible refine (CI.out _).mono ?_; rintro e w6 ⟨rfl, rfl⟩))
        go_ret
        exact ⟨rfl, HB5.out⟩
      · have e6 : decide (4294967295 < qt) = false := by simpa using q2
        have hc : (if true = false ∨ true = false then (200 : Int) else if ta ≠ 1 ∧ ta ≠ 2 then 92 else if true = false then 94 else if qt < 1 ∨ 4294967295 < qt then 95 else 0) = 0 := by simp [T1.out]; omega
        rw [hc]
        clear hc
        go_enter Try.func17, Try.ntmps17
        go_upto_region 1 with fail
        rw [HWa.out, HR.out]
        clear HWa
        go_wp2_with (first | (go_at_call 26; with_reducible refine (CB.out Wa HBA.out).mono ?_; rintro e w4 ⟨rfl, hb⟩; have HDa := hid (row_on HRA.out hb.out); have pa2 := row_cell HDa.out 2; have pa3 := row_cell HDa.out 3; have pa4 := row_cell HDa.out 4; have pa5 := row_cell HDa.out 5; simp only [List.getElem?_toArray, List.getElem?_cons_succ, List.getElem?_cons_zero] at pa2 pa3 pa4 pa5; have HB4 := hid (btr HBA.out hb.out); clear hb) | (go_at_call 26; with_reducible refine (CSe.out w4 HB4.out).mono ?_; rintro e w5 ⟨rfl, hb⟩; have HDb := hid (row_on HDa.out hb.out); have pb2 := row_cell HDb.out 2; have pb3 := row_cell HDb.out 3; have pb4 := row_cell HDb.out 4; have pb5 := row_cell HDb.out 5; simp only [List.getElem?_toArray, List.getElem?_cons_succ, List.getElem?_cons_zero] at pb2 pb3 pb4 pb5; have HB5 := hid (btr HB4.out hb.out); clear hb) | (go_at_call 31; with_reducible refine (CI.out _).mono ?_; rintro e w6 ⟨rfl, rfl⟩))
        go_ret
        exact ⟨rfl, HB5.out⟩
  · have e1 : (ta != 1) = true := by simpa using t1
    by_cases t2 : ta = 2
    · have e2 : (ta != 2) = false := by simpa using t2
      have T1 := hid t2
      clear t1 t2
      cases b3 with
      | false =>
        have hc : (if true = false ∨ true = false then (200 : Int) else if ta ≠ 1 ∧ ta ≠ 2 then 92 else if false = false then 94 else if qt < 1 ∨ 4294967295 < qt then 95 else 0) = 94 := by simp [T1.out]
        rw [hc]
        clear hc
        go_enter Try.func17, Try.ntmps17
        go_upto_region 1 with fail
        rw [HWa.out, HR.out]
        clear HWa
        go_wp2_with (first | (go_at_call 26; with_reducible refine (CB.out Wa HBA.out).mono ?_; rintro e w4 ⟨rfl, hb⟩; have HDa := hid (row_on HRA.out hb.out); have pa2 := row_cell HDa.out 2; have pa3 := row_cell HDa.out 3; have pa4 := row_cell HDa.out 4; have pa5 := row_cell HDa.out 5; simp only [List.getElem?_toArray, List.getElem?_cons_succ, List.getElem?_cons_zero] at pa2 pa3 pa4 pa5; have HB4 := hid (btr HBA.out hb.out); clear hb) | (go_at_call 26; with_reducible refine (CSe.out w4 HB4.out).mono ?_; rintro e w5 ⟨rfl, hb⟩; have HDb := hid (row_on HDa.out hb.out); have pb2 := row_cell HDb.out 2; have pb3 := row_cell HDb.out 3; have pb4 := row_cell HDb.out 4; have pb5 := row_cell HDb.out 5; simp only [List.getElem?_toArray, List.getElem?_cons_succ, List.getElem?_cons_zero] at pb2 pb3 pb4 pb5; have HB5 := hid (btr HB4.out hb.out); clear hb) | (go_at_call 31; with_reducible refine (CI.out _).mono ?_; rintro e w6 ⟨rfl, rfl⟩))
        go_ret
        exact ⟨rfl, HB5.out⟩
      | true =>
      by_cases q1 : qt < 1
      · have e5 : decide (qt < 1) = true := by simpa using q1
        have hc : (if true = false ∨ true = false then (200 : Int) else if ta ≠ 1 ∧ ta ≠ 2 then 92 else if true = false then 94 else if qt < 1 ∨ 4294967295 < qt then 95 else 0) = 95 := by simp [T1.out, q1]
        rw [hc]
        clear hc
        go_enter Try.func17, Try.ntmps17
        go_upto_region 1 with fail
        rw [HWa.out, HR.out]
        clear HWa
        go_wp2_with (first | (go_at_call 26; with_reducible refine (CB.out Wa HBA.out).mono ?_; rintro e w4 ⟨rfl, hb⟩; have HDa := hid (row_on HRA.out hb.out); have pa2 := row_cell HDa.out 2; have pa3 := row_cell HDa.out 3; have pa4 := row_cell HDa.out 4; have pa5 := row_cell HDa.out 5; simp only [List.getElem?_toArray, List.getElem?_cons_succ, List.getElem?_cons_zero] at pa2 pa3 pa4 pa5; have HB4 := hid (btr HBA.out hb.out); clear hb) | (go_at_call 26; with_reducible refine (CSe.out w4 HB4.out).mono ?_; rintro e w5 ⟨rfl, hb⟩; have HDb := hid (row_on HDa.out hb.out); have pb2 := row_cell HDb.out 2; have pb3 := row_cell HDb.out 3; have pb4 := row_cell HDb.out 4; have pb5 := row_cell HDb.out 5; simp only [List.getElem?_toArray, List.getElem?_cons_succ, List.getElem?_cons_zero] at pb2 pb3 pb4 pb5; have HB5 := hid (btr HB4.out hb.out); clear hb) | (go_at_call 31; with_reducible refine (CI.out _).mono ?_; rintro e w6 ⟨rfl, rfl⟩))
        go_ret
        exact ⟨rfl, HB5.out⟩
      · have e5 : decide (qt < 1) = false := by simpa using q1
        by_cases q2 : 4294967295 < qt
        · have e6 : decide (4294967295 < qt) = true := by simpa using q2
          have hc : (if true = false ∨ true = false then (200 : Int) else if ta ≠ 1 ∧ ta ≠ 2 then 92 else if true = false then 94 else if qt < 1 ∨ 4294967295 < qt then 95 else 0) = 95 := by simp [T1.out, q2]
          rw [hc]
          clear hc
          go_enter Try.func17, Try.ntmps17
          go_upto_region 1 with fail
          rw [HWa.out, HR.out]
          clear HWa
          go_wp2_with (first | (go_at_call 26; with_reducible refine (CB.out Wa HBA.out).mono ?_; rintro e w4 ⟨rfl, hb⟩; have HDa := hid (row_on HRA.out hb.out); have pa2 := row_cell HDa.out 2; have pa3 := row_cell HDa.out 3; have pa4 := row_cell HDa.out 4; have pa5 := row_cell HDa.out 5; simp only [List.getElem?_toArray, List.getElem?_cons_succ, List.getElem?_cons_zero] at pa2 pa3 pa4 pa5; have HB4 := hid (btr HBA.out hb.out); clear hb) | (go_at_call 26; with_reducible refine (CSe.out w4 HB4.out).mono ?_; rintro e w5 ⟨rfl, hb⟩; have HDb := hid (row_on HDa.out hb.out); have pb2 := row_cell HDb.out 2; have pb3 := row_cell HDb.out 3; have pb4 := row_cell HDb.out 4; have pb5 := row_cell HDb.out 5; simp only [List.getElem?_toArray, List.getElem?_cons_succ, List.getElem?_cons_zero] at pb2 pb3 pb4 pb5; have HB5 := hid (btr HB4.out hb.out); clear hb) | (go_at_call 31; with_reducible refine (CI.out _).mono ?_; rintro e w6 ⟨rfl, rfl⟩))
          go_ret
          exact ⟨rfl, HB5.out⟩
        · have e6 : decide (4294967295 < qt) = false := by simpa using q2
          have hc : (if true = false ∨ true = false then (200 : Int) else if ta ≠ 1 ∧ ta ≠ 2 then 92 else if true = false then 94 else if qt < 1 ∨ 4294967295 < qt then 95 else 0) = 0 := by simp [T1.out]; omega
          rw [hc]
          clear hc
          go_enter Try.func17, Try.ntmps17
          go_upto_region 1 with fail
          rw [HWa.out, HR.out]
          clear HWa
          go_wp2_with (first | (go_at_call 26; with_reducible refine (CB.out Wa HBA.out).mono ?_; rintro e w4 ⟨rfl, hb⟩; have HDa := hid (row_on HRA.out hb.out); have pa2 := row_cell HDa.out 2; have pa3 := row_cell HDa.out 3; have pa4 := row_cell HDa.out 4; have pa5 := row_cell HDa.out 5; simp only [List.getElem?_toArray, List.getElem?_cons_succ, List.getElem?_cons_zero] at pa2 pa3 pa4 pa5; have HB4 := hid (btr HBA.out hb.out); clear hb) | (go_at_call 26; with_reducible refine (CSe.out w4 HB4.out).mono ?_; rintro e w5 ⟨rfl, hb⟩; have HDb := hid (row_on HDa.out hb.out); have pb2 := row_cell HDb.out 2; have pb3 := row_cell HDb.out 3; have pb4 := row_cell HDb.out 4; have pb5 := row_cell HDb.out 5; simp only [List.getElem?_toArray, List.getElem?_cons_succ, List.getElem?_cons_zero] at pb2 pb3 pb4 pb5; have HB5 := hid (btr HB4.out hb.out); clear hb) | (go_at_call 31; with_reducible refine (CI.out _).mono ?_; rintro e w6 ⟨rfl, rfl⟩))
          go_ret
          exact ⟨rfl, HB5.out⟩
    · have e2 : (ta != 2) = true := by simpa using t2
      have hc : (if true = false ∨ true = false then (200 : Int) else if ta ≠ 1 ∧ ta ≠ 2 then 92 else if b3 = false then 94 else if qt < 1 ∨ 4294967295 < qt then 95 else 0) = 92 := by simp [t1, t2]
      rw [hc]
      clear hc
      go_enter Try.func17, Try.ntmps17
      go_upto_region 1 with fail
      rw [HWa.out, HR.out]
      clear HWa
      go_wp2_with (first | (go_at_call 26; with_reducible refine (CB.out Wa HBA.out).mono ?_; rintro e w4 ⟨rfl, hb⟩; have HDa := hid (row_on HRA.out hb.out); have pa2 := row_cell HDa.out 2; have pa3 := row_cell HDa.out 3; have pa4 := row_cell HDa.out 4; have pa5 := row_cell HDa.out 5; simp only [List.getElem?_toArray, List.getElem?_cons_succ, List.getElem?_cons_zero] at pa2 pa3 pa4 pa5; have HB4 := hid (btr HBA.out hb.out); clear hb) | (go_at_call 26; with_reducible refine (CSe.out w4 HB4.out).mono ?_; rintro e w5 ⟨rfl, hb⟩; have HDb := hid (row_on HDa.out hb.out); have pb2 := row_cell HDb.out 2; have pb3 := row_cell HDb.out 3; have pb4 := row_cell HDb.out 4; have pb5 := row_cell HDb.out 5; simp only [List.getElem?_toArray, List.getElem?_cons_succ, List.getElem?_cons_zero] at pb2 pb3 pb4 pb5; have HB5 := hid (btr HB4.out hb.out); clear hb) | (go_at_call 31; with_reducible refine (CI.out _).mono ?_; rintro e w6 ⟨rfl, rfl⟩))
      go_ret
      exact ⟨rfl, HB5.out⟩
end Go.Proofs.Ytdbnkidfclgnfaa.Ac
