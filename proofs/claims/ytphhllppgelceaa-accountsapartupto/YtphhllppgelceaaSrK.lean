/-
  pdqsort, Sort: some order of the same numbers.
-/
import Derived.Test.YtphhllppgelceaaSrE
import Derived.Test.YtphhllppgelceaaSrF
import Derived.Test.YtphhllppgelceaaSrJ
namespace Go.Proofs.Ytphhllppgelceaa.Sr
open Go.RowKit Go.Deep
set_option linter.unusedVariables false
set_option linter.unusedSimpArgs false
set_option maxHeartbeats 8000000
set_option maxRecDepth 100000
attribute [local go_sem ↓] Go.wp_at_zero Go.wp_at_succ
/-- a call that only puts them in another order, from any order on. -/
theorem Sz.call {f : Nat} {args : Array Value} {w0 U : World} {g n : Nat} {l0 : List Int} (hS : Sz w0 U g n l0) {R : Ending → Prop} (h : ∀ l, Uz U g n l → Calls Try.prog f args U fun e w' => R e ∧ Sz U w' g n l) : Calls Try.prog f args U fun e w' => R e ∧ Hid (Sz w0 w' g n l0) := by
  obtain ⟨l, q1, q2, q3⟩ := hS
  exact (h l q2).mono (fun e w' hh => ⟨hh.1, hid (hh.2.trans q1 q3)⟩)
theorem pinsS {w0 U : World} {g cap n : Nat} {l0 : List Int} (hS : Sz w0 U g n l0) {a b : Nat} (h1 : a < b) (h2 : b ≤ n) (hn : n ≤ 1152921504606846976) : Calls Try.prog 55 #[.slice (some ⟨g, 0, none⟩) n cap, .int .i64 a, .int .i64 b] U fun e w' => ∃ q : Bool, e = .returned (.bool q) ∧ Hid (Sz w0 w' g n l0) := by
  obtain ⟨l, q1, q2, q3⟩ := hS
  exact (pins_any g cap n l a b U q2 h1 h2 hn).mono (fun e w' hh => by obtain ⟨q, h3, h4⟩ := hh; exact ⟨q, h3, hid (h4.trans q1 q3)⟩)
theorem pivS {w0 U : World} {g cap n : Nat} {l0 : List Int} (hS : Sz w0 U g n l0) {a b : Nat} (h1 : a < b) (h2 : b ≤ n) (hn : n ≤ 1152921504606846976) : Calls Try.prog 53 #[.slice (some ⟨g, 0, none⟩) n cap, .int .i64 a, .int .i64 b] U fun e w' => ∃ (pv : Nat) (t : Int), e = .returned (.tuple #[.int .i64 pv, .int .i64 t]) ∧ Hid (a ≤ pv ∧ pv < b) ∧ Hid (Sz w0 w' g n l0) := by
  have hS' := hS
  obtain ⟨l, q1, q2, q3⟩ := hS
  exact (piv_any g cap n l a b U q2 h1 h2 hn).mono (fun e w' hh => by obtain ⟨p, t, h3, h4, h5, h6⟩ := hh; exact ⟨p, t, h3, hid ⟨h4, h5⟩, hid (hS'.on h6)⟩)
theorem peqS {w0 U : World} {g cap n : Nat} {l0 : List Int} (hS : Sz w0 U g n l0) {a b p : Nat} (h1 : a ≤ p) (h1' : p < b) (h2 : b ≤ n) (hn : n ≤ 1152921504606846976) : Calls Try.prog 57 #[.slice (some ⟨g, 0, none⟩) n cap, .int .i64 a, .int .i64 b, .int .i64 p] U fun e w' => ∃ mid : Nat, e = .returned (.int .i64 mid) ∧ Hid (a < mid ∧ mid ≤ b) ∧ Hid (Sz w0 w' g n l0) := by
  obtain ⟨l, q1, q2, q3⟩ := hS
  exact (peq_any g cap n l a b p U q2 h1 h1' h2 hn).mono (fun e w' hh => by obtain ⟨m, h3, h4, h5, h6⟩ := hh; exact ⟨m, h3, hid ⟨h4, h5⟩, hid (h6.trans q1 q3)⟩)
theorem partS {w0 U : World} {g cap n : Nat} {l0 : List Int} (hS : Sz w0 U g n l0) {a b p : Nat} (h1 : a ≤ p) (h1' : p < b) (h2 : b ≤ n) (hn : n ≤ 1152921504606846976) : Calls Try.prog 58 #[.slice (some ⟨g, 0, none⟩) n cap, .int .i64 a, .int .i64 b, .int .i64 p] U fun e w' => ∃ (mid : Nat) (r : Bool), e = .returned (.tuple #[.int .i64 mid, .bool r]) ∧ Hid (a ≤ mid ∧ mid < b) ∧ Hid (Sz w0 w' g n l0) := by
  obtain ⟨l, q1, q2, q3⟩ := hS
  exact (part_any g cap n l a b p U q2 h1 h1' h2 hn).mono (fun e w' hh => by obtain ⟨m, r, h3, h4, h5, h6⟩ := hh; exact ⟨m, r, h3, hid ⟨h4, h5⟩, hid (h6.trans q1 q3)⟩)
theorem pdq_any (g cap n : Nat) (hn : n ≤ 1152921504606846976) : ∀ (m : Nat) (l0 : List Int) (a b : Nat) (lim : Int) (w0 : World), b - a ≤ m → Uz w0 g n l0 → a ≤ b → b ≤ n → -9223372036854775808 ≤ lim → lim < 9223372036854775808 →
    Calls Try.prog 39 #[.slice (some ⟨g, 0, none⟩) n cap, .int .i64 a, .int .i64 b, .int .i64 lim] w0 fun e w' => e = .returned (.tuple #[]) ∧ Sz w0 w' g n l0 := by
  intro m
  induction m using Nat.strongRecOn with
  | ind m ih =>
  intro l0 a0 b0 lim w0 hm h hab hbn hl0 hl1
  have HS0 := hid h.sz
  have IH := hid ih
  clear ih h
  go_enter Try.func39, Try.ntmps39
  go_upto_region 2 with fail
  go_loopw [1, 2, 3, 8, 9] (fun av bv lv pv qv wr => ∃ (a b : Nat) (lim : Int) (p q : Bool), av = .int .i64 a ∧ bv = .int .i64 b ∧ lv = .int .i64 lim ∧ pv = .bool p ∧ qv = .bool q ∧ a ≤ b ∧ b ≤ n ∧ b - a ≤ m ∧ -9223372036854775808 ≤ lim ∧ lim < 9223372036854775808 ∧ Hid (Sz w0 wr g n l0)) (fun av bv _ _ _ _ => (intOf bv - intOf av).toNat)
  case atStart => exact ⟨a0, b0, lim, true, true, rfl, rfl, rfl, rfl, rfl, hab, hbn, hm, hl0, hl1, HS0⟩
  case round =>
    clear HS0 hm hab hbn hl0 hl1
    obtain ⟨a, b, lim, p, q, rfl, rfl, rfl, rfl, rfl, hab, hbn, hm, hl0, hl1, HS⟩ := hrel
    obtain ⟨L, hL⟩ : ∃ L, L = b - a := ⟨_, rfl⟩
    have wL : IntKind.i64.wrap ((b : Int) - (a : Int)) = (L : Int) := by rw [IntKind.wrap_i64]; omega
    have HL := hid hL
    clear hL
    by_cases h12 : L ≤ 12
    · have i12 : (L : Int) ≤ 12 := by omega
      have C1 := hid (Sz.call HS.out (R := fun e => e = .returned (.tuple #[])) (fun l hl => ins_any g cap n l a b wr hl hab hbn (by omega)))
      go_wp2_with (go_at_call 50; with_reducible refine (C1.out).mono ?_; rintro e v1 ⟨rfl, HS1⟩)
      try simp only [Exit.inBlock, Exit.then]
      refine bodyPost_ret (results_none rfl _ _ _) rfl ?_
      exact ⟨rfl, HS1.out⟩
    · have i12 : ¬ (L : Int) ≤ 12 := by omega
      have d12 : decide ((L : Int) ≤ 12) = false := decide_eq_false i12
      by_cases hz : lim = 0
      · subst hz
        have C1 := hid (Sz.call HS.out (R := fun e => e = .returned (.tuple #[])) (fun l hl => heap_any g cap n l a b wr hl hab hbn hn))
        go_wp2_with (go_at_call 51; with_reducible refine (C1.out).mono ?_; rintro e v1 ⟨rfl, HS1⟩)
        try simp only [Exit.inBlock, Exit.then]
        refine bodyPost_ret (results_none rfl _ _ _) rfl ?_
        exact ⟨rfl, HS1.out⟩
      · have ez : (lim == 0) = false := by simp [hz]
        clear hz
        cases p with
        | true =>
          have C2 := hid (pivS (cap := cap) HS.out (a := a) (b := b) (by have := HL.out; omega) hbn hn)
          go_upto_region 11 with (go_at_call 53; with_reducible refine (C2.out).mono ?_; rintro e v2 ⟨pv, t, rfl, HPV, HS2⟩)
          by_cases ht2 : t = 2
          · subst ht2
            have C3 := hid (Sz.call HS2.out (R := fun e => e = .returned (.tuple #[])) (fun l hl => rev_any g cap n l a b v2 hl hab hbn (by omega)))
            obtain ⟨b1, hb1⟩ : ∃ x, b = x + 1 := ⟨b - 1, by have := HL.out; omega⟩
            obtain ⟨pa, hpa⟩ : ∃ x, x = pv - a := ⟨_, rfl⟩
            obtain ⟨pw, hpw⟩ : ∃ x, x = b1 - pa := ⟨_, rfl⟩
            have wb1 : IntKind.i64.wrap ((b : Int) - 1) = (b1 : Int) := by rw [IntKind.wrap_i64]; omega
            have wpa : IntKind.i64.wrap ((pv : Int) - (a : Int)) = (pa : Int) := by rw [IntKind.wrap_i64]; have := HPV.out; omega
            have wpw : IntKind.i64.wrap ((b1 : Int) - (pa : Int)) = (pw : Int) := by rw [IntKind.wrap_i64]; have := HPV.out; omega
            have HPV := hid (show a ≤ pw ∧ pw < b from by have := HPV.out; omega)
            clear hb1 hpa hpw
            go_upto_region 15 with (go_at_call 54; with_reducible refine (C3.out).mono ?_; rintro e v3 ⟨rfl, HS3⟩)
            cases q with
            | false =>
              have HS := HS3
              obtain ⟨c, hc⟩ : ∃ c, c = a - 1 := ⟨_, rfl⟩
              have HCA := hid hc
              clear hc
              have pv1 : pw < n := by have := HPV.out; omega
              go_upto_region 17 with fail
              refine reg_any2 [73, 74, 75, 76, 77, 78, 79, 80, 81, 82, 83, 84, 85, 86, 87] (fun t X => Hid (∃ β : Bool, t 87 = .bool β ∧ (β = true → True)) ∧ Hid (Sz w0 X g n l0)) ?_ ?_
              · by_cases hle : 0 < a
                · have ile : (0 : Int) < (a : Int) := by omega
                  obtain ⟨l, p1, u1, k1⟩ := HS.out
                  obtain ⟨y, hy⟩ : ∃ y, gd l c = y := ⟨_, rfl⟩
                  have cy : v3.cell? ⟨g, c, none⟩ = some (.int .u32 y) := by rw [← hy]; exact u1.cell (by have := HCA.out; omega)
                  clear hy
                  obtain ⟨z, hz⟩ : ∃ y, gd l pw = y := ⟨_, rfl⟩
                  have cz : v3.cell? ⟨g, pw, none⟩ = some (.int .u32 z) := by rw [← hz]; exact u1.cell pv1
                  clear hz
                  clear p1 u1 k1 l; have wc : IntKind.i64.wrap ((a : Int) - 1) = (c : Int) := (by rw [IntKind.wrap_i64]; have := HCA.out; omega); have cc0 : (0 : Int) ≤ (c : Int) := (by omega); have cc2 : (c : Int) < (n : Int) := (by have := HCA.out; omega); have pp0 : (0 : Int) ≤ (pw : Int) := (by omega); have pp2 : (pw : Int) < (n : Int) := (by omega)
                  have HLE := hid hle
                  have ilT : decide (0 < a) = true := decide_eq_true hle
                  go_quiet (first | (go_at_call 56; with_reducible exact Calls.quiet_of_same (less_any _ _ _)))
                  have HQ := hid (HS.out.drewN nq)
                  exact ⟨by kernel_rfl, hid ⟨_, by rfl, fun _ => trivial⟩, HQ⟩
                · have ilN : decide (0 < a) = false := decide_eq_false hle
                  have ile' : ¬ (0 : Int) < (a : Int) := by omega
                  have ile : decide ((0 : Int) < (a : Int)) = false := decide_eq_false (by omega)
                  go_quiet (first | (go_at_call 56; with_reducible exact Calls.quiet_of_same (less_any _ _ _)))
                  have HQ := hid (HS.out.drewN nq)
                  exact ⟨by kernel_rfl, hid ⟨false, by rfl, fun _ => trivial⟩, HQ⟩
              · rintro t X ⟨HB, HSX⟩
                obtain ⟨β, eβ, hβ⟩ := HB.out
                simp only [puts, List.foldl_cons, List.foldl_nil, Act.put, List.setIfInBounds_toArray, List.set_cons_zero, List.set_cons_succ]
                rw [eβ]
                clear eβ HB
                clear hβ
                cases β with
                | true =>
                  have C5 := hid (peqS (cap := cap) HSX.out (a := a) (b := b) (p := pw) HPV.out.1 HPV.out.2 hbn hn)
                  go_wp2_with (go_at_call 57; with_reducible refine (C5.out).mono ?_; rintro e v5 ⟨mid, rfl, HM5, HS5⟩)
                  go_roundw
                  case rel => exact ⟨mid, b, _, _, _, rfl, rfl, rfl, rfl, rfl, by have := HM5.out; omega, hbn, by have := HM5.out; omega, by omega, by omega, HS5⟩
                  case measure => have := HM5.out; first | (simp [intOf]; done) | (simp [intOf]; omega)
                | false =>
                  have C5 := hid (partS (cap := cap) HSX.out (a := a) (b := b) (p := pw) HPV.out.1 HPV.out.2 hbn hn)
                  go_upto_region 21 with (go_at_call 58; with_reducible refine (C5.out).mono ?_; rintro e v5 ⟨mid, r5, rfl, HM5, HS5⟩)
                  obtain ⟨lf, hlf⟩ : ∃ x, x = mid - a := ⟨_, rfl⟩
                  obtain ⟨rt, hrt⟩ : ∃ x, x = b - mid := ⟨_, rfl⟩
                  obtain ⟨th, hth⟩ : ∃ x, x = L / 8 := ⟨_, rfl⟩
                  obtain ⟨m1, hm1⟩ : ∃ x, x = mid + 1 := ⟨_, rfl⟩
                  have wlf : IntKind.i64.wrap ((mid : Int) - (a : Int)) = (lf : Int) := by rw [IntKind.wrap_i64]; have := HM5.out; omega
                  have wrt : IntKind.i64.wrap ((b : Int) - (mid : Int)) = (rt : Int) := by rw [IntKind.wrap_i64]; have := HM5.out; omega
                  have tth : ((L : Int)).tdiv 8 = (th : Int) := by rw [Int.tdiv_eq_ediv_of_nonneg (by omega)]; omega
                  have wth : IntKind.i64.wrap (th : Int) = (th : Int) := by rw [IntKind.wrap_i64]; have := HL.out; omega
                  have wm1 : IntKind.i64.wrap ((mid : Int) + 1) = (m1 : Int) := by rw [IntKind.wrap_i64]; have := HM5.out; omega
                  have HE5 := hid (show lf = mid - a ∧ rt = b - mid ∧ m1 = mid + 1 from ⟨hlf, hrt, hm1⟩)
                  clear hlf hrt hth hm1
                  by_cases hlr : lf < rt
                  · have ilr : (lf : Int) < (rt : Int) := by omega
                    have C6 := hid (Sz.call HS5.out (R := fun e => e = .returned (.tuple #[])) (fun l hl => IH.out (mid - a) (by have := HM5.out; omega) l a mid lim v5 (Nat.le_refl _) hl HM5.out.1 (by have := HM5.out; omega) (by omega) (by omega)))
                    go_wp2_with (go_at_call 39; with_reducible refine (C6.out).mono ?_; rintro e v6 ⟨rfl, HS6⟩)
                    go_roundw
                    case rel => exact ⟨m1, b, _, _, _, rfl, rfl, rfl, rfl, rfl, by have := HM5.out; have := HE5.out; omega, hbn, by have := HM5.out; have := HE5.out; omega, by omega, by omega, HS6⟩
                    case measure => have := HM5.out; have := HE5.out; first | (simp [intOf]; done) | (simp [intOf]; omega)
                  · have ilr : ¬ (lf : Int) < (rt : Int) := by omega
                    have dlr : decide ((lf : Int) < (rt : Int)) = false := decide_eq_false ilr
                    have C6 := hid (show Calls Try.prog 39 #[.slice (some ⟨g, 0, none⟩) n cap, .int .i64 m1, .int .i64 b, .int .i64 lim] v5 fun e w' => e = .returned (.tuple #[]) ∧ Hid (Sz w0 w' g n l0) from Sz.call HS5.out (R := fun e => e = .returned (.tuple #[])) (fun l hl => IH.out (b - m1) (by have := HM5.out; have := HE5.out; omega) l m1 b lim v5 (Nat.le_refl _) hl (by have := HM5.out; have := HE5.out; omega) hbn (by omega) (by omega)))
                    go_wp2_with (go_at_call 39; with_reducible refine (C6.out).mono ?_; rintro e v6 ⟨rfl, HS6⟩)
                    go_roundw
                    case rel => exact ⟨a, mid, _, _, _, rfl, rfl, rfl, rfl, rfl, by have := HM5.out; omega, by have := HM5.out; omega, by have := HM5.out; omega, by omega, by omega, HS6⟩
                    case measure => have := HM5.out; first | (simp [intOf]; done) | (simp [intOf]; omega)
            | true =>
              have C4t := hid (pinsS (cap := cap) HS3.out (a := a) (b := b) (by have := HL.out; omega) hbn hn)
              go_upto_region 17 with (go_at_call 55; with_reducible refine (C4t.out).mono ?_; rintro e v4 ⟨r4, rfl, HS4⟩; cases r4)
              rotate_left
              · try simp only [Exit.inBlock, Exit.then]
                refine bodyPost_ret (results_none rfl _ _ _) rfl ?_
                exact ⟨rfl, HS4.out⟩
              have HS := HS4
              obtain ⟨c, hc⟩ : ∃ c, c = a - 1 := ⟨_, rfl⟩
              have HCA := hid hc
              clear hc
              have pv1 : pw < n := by have := HPV.out; omega
              go_upto_region 17 with fail
              refine reg_any2 [73, 74, 75, 76, 77, 78, 79, 80, 81, 82, 83, 84, 85, 86, 87] (fun t X => Hid (∃ β : Bool, t 87 = .bool β ∧ (β = true → True)) ∧ Hid (Sz w0 X g n l0)) ?_ ?_
              · by_cases hle : 0 < a
                · have ile : (0 : Int) < (a : Int) := by omega
                  obtain ⟨l, p1, u1, k1⟩ := HS.out
                  obtain ⟨y, hy⟩ : ∃ y, gd l c = y := ⟨_, rfl⟩
                  have cy : v4.cell? ⟨g, c, none⟩ = some (.int .u32 y) := by rw [← hy]; exact u1.cell (by have := HCA.out; omega)
                  clear hy
                  obtain ⟨z, hz⟩ : ∃ y, gd l pw = y := ⟨_, rfl⟩
                  have cz : v4.cell? ⟨g, pw, none⟩ = some (.int .u32 z) := by rw [← hz]; exact u1.cell pv1
                  clear hz
                  clear p1 u1 k1 l; have wc : IntKind.i64.wrap ((a : Int) - 1) = (c : Int) := (by rw [IntKind.wrap_i64]; have := HCA.out; omega); have cc0 : (0 : Int) ≤ (c : Int) := (by omega); have cc2 : (c : Int) < (n : Int) := (by have := HCA.out; omega); have pp0 : (0 : Int) ≤ (pw : Int) := (by omega); have pp2 : (pw : Int) < (n : Int) := (by omega)
                  have HLE := hid hle
                  have ilT : decide (0 < a) = true := decide_eq_true hle
                  go_quiet (first | (go_at_call 56; with_reducible exact Calls.quiet_of_same (less_any _ _ _)))
                  have HQ := hid (HS.out.drewN nq)
                  exact ⟨by kernel_rfl, hid ⟨_, by rfl, fun _ => trivial⟩, HQ⟩
                · have ilN : decide (0 < a) = false := decide_eq_false hle
                  have ile' : ¬ (0 : Int) < (a : Int) := by omega
                  have ile : decide ((0 : Int) < (a : Int)) = false := decide_eq_false (by omega)
                  go_quiet (first | (go_at_call 56; with_reducible exact Calls.quiet_of_same (less_any _ _ _)))
                  have HQ := hid (HS.out.drewN nq)
                  exact ⟨by kernel_rfl, hid ⟨false, by rfl, fun _ => trivial⟩, HQ⟩
              · rintro t X ⟨HB, HSX⟩
                obtain ⟨β, eβ, hβ⟩ := HB.out
                simp only [puts, List.foldl_cons, List.foldl_nil, Act.put, List.setIfInBounds_toArray, List.set_cons_zero, List.set_cons_succ]
                rw [eβ]
                clear eβ HB
                clear hβ
                cases β with
                | true =>
                  have C5 := hid (peqS (cap := cap) HSX.out (a := a) (b := b) (p := pw) HPV.out.1 HPV.out.2 hbn hn)
                  go_wp2_with (go_at_call 57; with_reducible refine (C5.out).mono ?_; rintro e v5 ⟨mid, rfl, HM5, HS5⟩)
                  go_roundw
                  case rel => exact ⟨mid, b, _, _, _, rfl, rfl, rfl, rfl, rfl, by have := HM5.out; omega, hbn, by have := HM5.out; omega, by omega, by omega, HS5⟩
                  case measure => have := HM5.out; first | (simp [intOf]; done) | (simp [intOf]; omega)
                | false =>
                  have C5 := hid (partS (cap := cap) HSX.out (a := a) (b := b) (p := pw) HPV.out.1 HPV.out.2 hbn hn)
                  go_upto_region 21 with (go_at_call 58; with_reducible refine (C5.out).mono ?_; rintro e v5 ⟨mid, r5, rfl, HM5, HS5⟩)
                  obtain ⟨lf, hlf⟩ : ∃ x, x = mid - a := ⟨_, rfl⟩
                  obtain ⟨rt, hrt⟩ : ∃ x, x = b - mid := ⟨_, rfl⟩
                  obtain ⟨th, hth⟩ : ∃ x, x = L / 8 := ⟨_, rfl⟩
                  obtain ⟨m1, hm1⟩ : ∃ x, x = mid + 1 := ⟨_, rfl⟩
                  have wlf : IntKind.i64.wrap ((mid : Int) - (a : Int)) = (lf : Int) := by rw [IntKind.wrap_i64]; have := HM5.out; omega
                  have wrt : IntKind.i64.wrap ((b : Int) - (mid : Int)) = (rt : Int) := by rw [IntKind.wrap_i64]; have := HM5.out; omega
                  have tth : ((L : Int)).tdiv 8 = (th : Int) := by rw [Int.tdiv_eq_ediv_of_nonneg (by omega)]; omega
                  have wth : IntKind.i64.wrap (th : Int) = (th : Int) := by rw [IntKind.wrap_i64]; have := HL.out; omega
                  have wm1 : IntKind.i64.wrap ((mid : Int) + 1) = (m1 : Int) := by rw [IntKind.wrap_i64]; have := HM5.out; omega
                  have HE5 := hid (show lf = mid - a ∧ rt = b - mid ∧ m1 = mid + 1 from ⟨hlf, hrt, hm1⟩)
                  clear hlf hrt hth hm1
                  by_cases hlr : lf < rt
                  · have ilr : (lf : Int) < (rt : Int) := by omega
                    have C6 := hid (Sz.call HS5.out (R := fun e => e = .returned (.tuple #[])) (fun l hl => IH.out (mid - a) (by have := HM5.out; omega) l a mid lim v5 (Nat.le_refl _) hl HM5.out.1 (by have := HM5.out; omega) (by omega) (by omega)))
                    go_wp2_with (go_at_call 39; with_reducible refine (C6.out).mono ?_; rintro e v6 ⟨rfl, HS6⟩)
                    go_roundw
                    case rel => exact ⟨m1, b, _, _, _, rfl, rfl, rfl, rfl, rfl, by have := HM5.out; have := HE5.out; omega, hbn, by have := HM5.out; have := HE5.out; omega, by omega, by omega, HS6⟩
                    case measure => have := HM5.out; have := HE5.out; first | (simp [intOf]; done) | (simp [intOf]; omega)
                  · have ilr : ¬ (lf : Int) < (rt : Int) := by omega
                    have dlr : decide ((lf : Int) < (rt : Int)) = false := decide_eq_false ilr
                    have C6 := hid (show Calls Try.prog 39 #[.slice (some ⟨g, 0, none⟩) n cap, .int .i64 m1, .int .i64 b, .int .i64 lim] v5 fun e w' => e = .returned (.tuple #[]) ∧ Hid (Sz w0 w' g n l0) from Sz.call HS5.out (R := fun e => e = .returned (.tuple #[])) (fun l hl => IH.out (b - m1) (by have := HM5.out; have := HE5.out; omega) l m1 b lim v5 (Nat.le_refl _) hl (by have := HM5.out; have := HE5.out; omega) hbn (by omega) (by omega)))
                    go_wp2_with (go_at_call 39; with_reducible refine (C6.out).mono ?_; rintro e v6 ⟨rfl, HS6⟩)
                    go_roundw
                    case rel => exact ⟨a, mid, _, _, _, rfl, rfl, rfl, rfl, rfl, by have := HM5.out; omega, by have := HM5.out; omega, by have := HM5.out; omega, by omega, by omega, HS6⟩
                    case measure => have := HM5.out; first | (simp [intOf]; done) | (simp [intOf]; omega)
          · have et2 : (t == 2) = false := by simp [ht2]
            clear ht2
            cases q with
            | false =>
              have HS := HS2
              obtain ⟨c, hc⟩ : ∃ c, c = a - 1 := ⟨_, rfl⟩
              have HCA := hid hc
              clear hc
              have pv1 : pv < n := by have := HPV.out; omega
              go_upto_region 17 with fail
              refine reg_any2 [73, 74, 75, 76, 77, 78, 79, 80, 81, 82, 83, 84, 85, 86, 87] (fun t X => Hid (∃ β : Bool, t 87 = .bool β ∧ (β = true → True)) ∧ Hid (Sz w0 X g n l0)) ?_ ?_
              · by_cases hle : 0 < a
                · have ile : (0 : Int) < (a : Int) := by omega
                  obtain ⟨l, p1, u1, k1⟩ := HS.out
                  obtain ⟨y, hy⟩ : ∃ y, gd l c = y := ⟨_, rfl⟩
                  have cy : v2.cell? ⟨g, c, none⟩ = some (.int .u32 y) := by rw [← hy]; exact u1.cell (by have := HCA.out; omega)
                  clear hy
                  obtain ⟨z, hz⟩ : ∃ y, gd l pv = y := ⟨_, rfl⟩
                  have cz : v2.cell? ⟨g, pv, none⟩ = some (.int .u32 z) := by rw [← hz]; exact u1.cell pv1
                  clear hz
                  clear p1 u1 k1 l; have wc : IntKind.i64.wrap ((a : Int) - 1) = (c : Int) := (by rw [IntKind.wrap_i64]; have := HCA.out; omega); have cc0 : (0 : Int) ≤ (c : Int) := (by omega); have cc2 : (c : Int) < (n : Int) := (by have := HCA.out; omega); have pp0 : (0 : Int) ≤ (pv : Int) := (by omega); have pp2 : (pv : Int) < (n : Int) := (by omega)
                  have HLE := hid hle
                  have ilT : decide (0 < a) = true := decide_eq_true hle
                  go_quiet (first | (go_at_call 56; with_reducible exact Calls.quiet_of_same (less_any _ _ _)))
                  have HQ := hid (HS.out.drewN nq)
                  exact ⟨by kernel_rfl, hid ⟨_, by rfl, fun _ => trivial⟩, HQ⟩
                · have ilN : decide (0 < a) = false := decide_eq_false hle
                  have ile' : ¬ (0 : Int) < (a : Int) := by omega
                  have ile : decide ((0 : Int) < (a : Int)) = false := decide_eq_false (by omega)
                  go_quiet (first | (go_at_call 56; with_reducible exact Calls.quiet_of_same (less_any _ _ _)))
                  have HQ := hid (HS.out.drewN nq)
                  exact ⟨by kernel_rfl, hid ⟨false, by rfl, fun _ => trivial⟩, HQ⟩
              · rintro t X ⟨HB, HSX⟩
                obtain ⟨β, eβ, hβ⟩ := HB.out
                simp only [puts, List.foldl_cons, List.foldl_nil, Act.put, List.setIfInBounds_toArray, List.set_cons_zero, List.set_cons_succ]
                rw [eβ]
                clear eβ HB
                clear hβ
                cases β with
                | true =>
                  have C5 := hid (peqS (cap := cap) HSX.out (a := a) (b := b) (p := pv) HPV.out.1 HPV.out.2 hbn hn)
                  go_wp2_with (go_at_call 57; with_reducible refine (C5.out).mono ?_; rintro e v5 ⟨mid, rfl, HM5, HS5⟩)
                  go_roundw
                  case rel => exact ⟨mid, b, _, _, _, rfl, rfl, rfl, rfl, rfl, by have := HM5.out; omega, hbn, by have := HM5.out; omega, by omega, by omega, HS5⟩
                  case measure => have := HM5.out; first | (simp [intOf]; done) | (simp [intOf]; omega)
                | false =>
                  have C5 := hid (partS (cap := cap) HSX.out (a := a) (b := b) (p := pv) HPV.out.1 HPV.out.2 hbn hn)
                  go_upto_region 21 with (go_at_call 58; with_reducible refine (C5.out).mono ?_; rintro e v5 ⟨mid, r5, rfl, HM5, HS5⟩)
                  obtain ⟨lf, hlf⟩ : ∃ x, x = mid - a := ⟨_, rfl⟩
                  obtain ⟨rt, hrt⟩ : ∃ x, x = b - mid := ⟨_, rfl⟩
                  obtain ⟨th, hth⟩ : ∃ x, x = L / 8 := ⟨_, rfl⟩
                  obtain ⟨m1, hm1⟩ : ∃ x, x = mid + 1 := ⟨_, rfl⟩
                  have wlf : IntKind.i64.wrap ((mid : Int) - (a : Int)) = (lf : Int) := by rw [IntKind.wrap_i64]; have := HM5.out; omega
                  have wrt : IntKind.i64.wrap ((b : Int) - (mid : Int)) = (rt : Int) := by rw [IntKind.wrap_i64]; have := HM5.out; omega
                  have tth : ((L : Int)).tdiv 8 = (th : Int) := by rw [Int.tdiv_eq_ediv_of_nonneg (by omega)]; omega
                  have wth : IntKind.i64.wrap (th : Int) = (th : Int) := by rw [IntKind.wrap_i64]; have := HL.out; omega
                  have wm1 : IntKind.i64.wrap ((mid : Int) + 1) = (m1 : Int) := by rw [IntKind.wrap_i64]; have := HM5.out; omega
                  have HE5 := hid (show lf = mid - a ∧ rt = b - mid ∧ m1 = mid + 1 from ⟨hlf, hrt, hm1⟩)
                  clear hlf hrt hth hm1
                  by_cases hlr : lf < rt
                  · have ilr : (lf : Int) < (rt : Int) := by omega
                    have C6 := hid (Sz.call HS5.out (R := fun e => e = .returned (.tuple #[])) (fun l hl => IH.out (mid - a) (by have := HM5.out; omega) l a mid lim v5 (Nat.le_refl _) hl HM5.out.1 (by have := HM5.out; omega) (by omega) (by omega)))
                    go_wp2_with (go_at_call 39; with_reducible refine (C6.out).mono ?_; rintro e v6 ⟨rfl, HS6⟩)
                    go_roundw
                    case rel => exact ⟨m1, b, _, _, _, rfl, rfl, rfl, rfl, rfl, by have := HM5.out; have := HE5.out; omega, hbn, by have := HM5.out; have := HE5.out; omega, by omega, by omega, HS6⟩
                    case measure => have := HM5.out; have := HE5.out; first | (simp [intOf]; done) | (simp [intOf]; omega)
                  · have ilr : ¬ (lf : Int) < (rt : Int) := by omega
                    have dlr : decide ((lf : Int) < (rt : Int)) = false := decide_eq_false ilr
                    have C6 := hid (show Calls Try.prog 39 #[.slice (some ⟨g, 0, none⟩) n cap, .int .i64 m1, .int .i64 b, .int .i64 lim] v5 fun e w' => e = .returned (.tuple #[]) ∧ Hid (Sz w0 w' g n l0) from Sz.call HS5.out (R := fun e => e = .returned (.tuple #[])) (fun l hl => IH.out (b - m1) (by have := HM5.out; have := HE5.out; omega) l m1 b lim v5 (Nat.le_refl _) hl (by have := HM5.out; have := HE5.out; omega) hbn (by omega) (by omega)))
                    go_wp2_with (go_at_call 39; with_reducible refine (C6.out).mono ?_; rintro e v6 ⟨rfl, HS6⟩)
                    go_roundw
                    case rel => exact ⟨a, mid, _, _, _, rfl, rfl, rfl, rfl, rfl, by have := HM5.out; omega, by have := HM5.out; omega, by have := HM5.out; omega, by omega, by omega, HS6⟩
                    case measure => have := HM5.out; first | (simp [intOf]; done) | (simp [intOf]; omega)
            | true =>
              by_cases ht1 : t = 1
              · subst ht1
                have C4t := hid (pinsS (cap := cap) HS2.out (a := a) (b := b) (by have := HL.out; omega) hbn hn)
                go_upto_region 17 with (go_at_call 55; with_reducible refine (C4t.out).mono ?_; rintro e v4 ⟨r4, rfl, HS4⟩; cases r4)
                rotate_left
                · try simp only [Exit.inBlock, Exit.then]
                  refine bodyPost_ret (results_none rfl _ _ _) rfl ?_
                  exact ⟨rfl, HS4.out⟩
                have HS := HS4
                obtain ⟨c, hc⟩ : ∃ c, c = a - 1 := ⟨_, rfl⟩
                have HCA := hid hc
                clear hc
                have pv1 : pv < n := by have := HPV.out; omega
                go_upto_region 17 with fail
                refine reg_any2 [73, 74, 75, 76, 77, 78, 79, 80, 81, 82, 83, 84, 85, 86, 87] (fun t X => Hid (∃ β : Bool, t 87 = .bool β ∧ (β = true → True)) ∧ Hid (Sz w0 X g n l0)) ?_ ?_
                · by_cases hle : 0 < a
                  · have ile : (0 : Int) < (a : Int) := by omega
                    obtain ⟨l, p1, u1, k1⟩ := HS.out
                    obtain ⟨y, hy⟩ : ∃ y, gd l c = y := ⟨_, rfl⟩
                    have cy : v4.cell? ⟨g, c, none⟩ = some (.int .u32 y) := by rw [← hy]; exact u1.cell (by have := HCA.out; omega)
                    clear hy
                    obtain ⟨z, hz⟩ : ∃ y, gd l pv = y := ⟨_, rfl⟩
                    have cz : v4.cell? ⟨g, pv, none⟩ = some (.int .u32 z) := by rw [← hz]; exact u1.cell pv1
                    clear hz
                    clear p1 u1 k1 l; have wc : IntKind.i64.wrap ((a : Int) - 1) = (c : Int) := (by rw [IntKind.wrap_i64]; have := HCA.out; omega); have cc0 : (0 : Int) ≤ (c : Int) := (by omega); have cc2 : (c : Int) < (n : Int) := (by have := HCA.out; omega); have pp0 : (0 : Int) ≤ (pv : Int) := (by omega); have pp2 : (pv : Int) < (n : Int) := (by omega)
                    have HLE := hid hle
                    have ilT : decide (0 < a) = true := decide_eq_true hle
                    go_quiet (first | (go_at_call 56; with_reducible exact Calls.quiet_of_same (less_any _ _ _)))
                    have HQ := hid (HS.out.drewN nq)
                    exact ⟨by kernel_rfl, hid ⟨_, by rfl, fun _ => trivial⟩, HQ⟩
                  · have ilN : decide (0 < a) = false := decide_eq_false hle
                    have ile' : ¬ (0 : Int) < (a : Int) := by omega
                    have ile : decide ((0 : Int) < (a : Int)) = false := decide_eq_false (by omega)
                    go_quiet (first | (go_at_call 56; with_reducible exact Calls.quiet_of_same (less_any _ _ _)))
                    have HQ := hid (HS.out.drewN nq)
                    exact ⟨by kernel_rfl, hid ⟨false, by rfl, fun _ => trivial⟩, HQ⟩
                · rintro t X ⟨HB, HSX⟩
                  obtain ⟨β, eβ, hβ⟩ := HB.out
                  simp only [puts, List.foldl_cons, List.foldl_nil, Act.put, List.setIfInBounds_toArray, List.set_cons_zero, List.set_cons_succ]
                  rw [eβ]
                  clear eβ HB
                  clear hβ
                  cases β with
                  | true =>
                    have C5 := hid (peqS (cap := cap) HSX.out (a := a) (b := b) (p := pv) HPV.out.1 HPV.out.2 hbn hn)
                    go_wp2_with (go_at_call 57; with_reducible refine (C5.out).mono ?_; rintro e v5 ⟨mid, rfl, HM5, HS5⟩)
                    go_roundw
                    case rel => exact ⟨mid, b, _, _, _, rfl, rfl, rfl, rfl, rfl, by have := HM5.out; omega, hbn, by have := HM5.out; omega, by omega, by omega, HS5⟩
                    case measure => have := HM5.out; first | (simp [intOf]; done) | (simp [intOf]; omega)
                  | false =>
                    have C5 := hid (partS (cap := cap) HSX.out (a := a) (b := b) (p := pv) HPV.out.1 HPV.out.2 hbn hn)
                    go_upto_region 21 with (go_at_call 58; with_reducible refine (C5.out).mono ?_; rintro e v5 ⟨mid, r5, rfl, HM5, HS5⟩)
                    obtain ⟨lf, hlf⟩ : ∃ x, x = mid - a := ⟨_, rfl⟩
                    obtain ⟨rt, hrt⟩ : ∃ x, x = b - mid := ⟨_, rfl⟩
                    obtain ⟨th, hth⟩ : ∃ x, x = L / 8 := ⟨_, rfl⟩
                    obtain ⟨m1, hm1⟩ : ∃ x, x = mid + 1 := ⟨_, rfl⟩
                    have wlf : IntKind.i64.wrap ((mid : Int) - (a : Int)) = (lf : Int) := by rw [IntKind.wrap_i64]; have := HM5.out; omega
                    have wrt : IntKind.i64.wrap ((b : Int) - (mid : Int)) = (rt : Int) := by rw [IntKind.wrap_i64]; have := HM5.out; omega
                    have tth : ((L : Int)).tdiv 8 = (th : Int) := by rw [Int.tdiv_eq_ediv_of_nonneg (by omega)]; omega
                    have wth : IntKind.i64.wrap (th : Int) = (th : Int) := by rw [IntKind.wrap_i64]; have := HL.out; omega
                    have wm1 : IntKind.i64.wrap ((mid : Int) + 1) = (m1 : Int) := by rw [IntKind.wrap_i64]; have := HM5.out; omega
                    have HE5 := hid (show lf = mid - a ∧ rt = b - mid ∧ m1 = mid + 1 from ⟨hlf, hrt, hm1⟩)
                    clear hlf hrt hth hm1
                    by_cases hlr : lf < rt
                    · have ilr : (lf : Int) < (rt : Int) := by omega
                      have C6 := hid (Sz.call HS5.out (R := fun e => e = .returned (.tuple #[])) (fun l hl => IH.out (mid - a) (by have := HM5.out; omega) l a mid lim v5 (Nat.le_refl _) hl HM5.out.1 (by have := HM5.out; omega) (by omega) (by omega)))
                      go_wp2_with (go_at_call 39; with_reducible refine (C6.out).mono ?_; rintro e v6 ⟨rfl, HS6⟩)
                      go_roundw
                      case rel => exact ⟨m1, b, _, _, _, rfl, rfl, rfl, rfl, rfl, by have := HM5.out; have := HE5.out; omega, hbn, by have := HM5.out; have := HE5.out; omega, by omega, by omega, HS6⟩
                      case measure => have := HM5.out; have := HE5.out; first | (simp [intOf]; done) | (simp [intOf]; omega)
                    · have ilr : ¬ (lf : Int) < (rt : Int) := by omega
                      have dlr : decide ((lf : Int) < (rt : Int)) = false := decide_eq_false ilr
                      have C6 := hid (show Calls Try.prog 39 #[.slice (some ⟨g, 0, none⟩) n cap, .int .i64 m1, .int .i64 b, .int .i64 lim] v5 fun e w' => e = .returned (.tuple #[]) ∧ Hid (Sz w0 w' g n l0) from Sz.call HS5.out (R := fun e => e = .returned (.tuple #[])) (fun l hl => IH.out (b - m1) (by have := HM5.out; have := HE5.out; omega) l m1 b lim v5 (Nat.le_refl _) hl (by have := HM5.out; have := HE5.out; omega) hbn (by omega) (by omega)))
                      go_wp2_with (go_at_call 39; with_reducible refine (C6.out).mono ?_; rintro e v6 ⟨rfl, HS6⟩)
                      go_roundw
                      case rel => exact ⟨a, mid, _, _, _, rfl, rfl, rfl, rfl, rfl, by have := HM5.out; omega, by have := HM5.out; omega, by have := HM5.out; omega, by omega, by omega, HS6⟩
                      case measure => have := HM5.out; first | (simp [intOf]; done) | (simp [intOf]; omega)
              · have et1 : (t == 1) = false := by simp [ht1]
                clear ht1
                have HS := HS2
                obtain ⟨c, hc⟩ : ∃ c, c = a - 1 := ⟨_, rfl⟩
                have HCA := hid hc
                clear hc
                have pv1 : pv < n := by have := HPV.out; omega
                go_upto_region 17 with fail
                refine reg_any2 [73, 74, 75, 76, 77, 78, 79, 80, 81, 82, 83, 84, 85, 86, 87] (fun t X => Hid (∃ β : Bool, t 87 = .bool β ∧ (β = true → True)) ∧ Hid (Sz w0 X g n l0)) ?_ ?_
                · by_cases hle : 0 < a
                  · have ile : (0 : Int) < (a : Int) := by omega
                    obtain ⟨l, p1, u1, k1⟩ := HS.out
                    obtain ⟨y, hy⟩ : ∃ y, gd l c = y := ⟨_, rfl⟩
                    have cy : v2.cell? ⟨g, c, none⟩ = some (.int .u32 y) := by rw [← hy]; exact u1.cell (by have := HCA.out; omega)
                    clear hy
                    obtain ⟨z, hz⟩ : ∃ y, gd l pv = y := ⟨_, rfl⟩
                    have cz : v2.cell? ⟨g, pv, none⟩ = some (.int .u32 z) := by rw [← hz]; exact u1.cell pv1
                    clear hz
                    clear p1 u1 k1 l; have wc : IntKind.i64.wrap ((a : Int) - 1) = (c : Int) := (by rw [IntKind.wrap_i64]; have := HCA.out; omega); have cc0 : (0 : Int) ≤ (c : Int) := (by omega); have cc2 : (c : Int) < (n : Int) := (by have := HCA.out; omega); have pp0 : (0 : Int) ≤ (pv : Int) := (by omega); have pp2 : (pv : Int) < (n : Int) := (by omega)
                    have HLE := hid hle
                    have ilT : decide (0 < a) = true := decide_eq_true hle
                    go_quiet (first | (go_at_call 56; with_reducible exact Calls.quiet_of_same (less_any _ _ _)))
                    have HQ := hid (HS.out.drewN nq)
                    exact ⟨by kernel_rfl, hid ⟨_, by rfl, fun _ => trivial⟩, HQ⟩
                  · have ilN : decide (0 < a) = false := decide_eq_false hle
                    have ile' : ¬ (0 : Int) < (a : Int) := by omega
                    have ile : decide ((0 : Int) < (a : Int)) = false := decide_eq_false (by omega)
                    go_quiet (first | (go_at_call 56; with_reducible exact Calls.quiet_of_same (less_any _ _ _)))
                    have HQ := hid (HS.out.drewN nq)
                    exact ⟨by kernel_rfl, hid ⟨false, by rfl, fun _ => trivial⟩, HQ⟩
                · rintro t X ⟨HB, HSX⟩
                  obtain ⟨β, eβ, hβ⟩ := HB.out
                  simp only [puts, List.foldl_cons, List.foldl_nil, Act.put, List.setIfInBounds_toArray, List.set_cons_zero, List.set_cons_succ]
                  rw [eβ]
                  clear eβ HB
                  clear hβ
                  cases β with
                  | true =>
                    have C5 := hid (peqS (cap := cap) HSX.out (a := a) (b := b) (p := pv) HPV.out.1 HPV.out.2 hbn hn)
                    go_wp2_with (go_at_call 57; with_reducible refine (C5.out).mono ?_; rintro e v5 ⟨mid, rfl, HM5, HS5⟩)
                    go_roundw
                    case rel => exact ⟨mid, b, _, _, _, rfl, rfl, rfl, rfl, rfl, by have := HM5.out; omega, hbn, by have := HM5.out; omega, by omega, by omega, HS5⟩
                    case measure => have := HM5.out; first | (simp [intOf]; done) | (simp [intOf]; omega)
                  | false =>
                    have C5 := hid (partS (cap := cap) HSX.out (a := a) (b := b) (p := pv) HPV.out.1 HPV.out.2 hbn hn)
                    go_upto_region 21 with (go_at_call 58; with_reducible refine (C5.out).mono ?_; rintro e v5 ⟨mid, r5, rfl, HM5, HS5⟩)
                    obtain ⟨lf, hlf⟩ : ∃ x, x = mid - a := ⟨_, rfl⟩
                    obtain ⟨rt, hrt⟩ : ∃ x, x = b - mid := ⟨_, rfl⟩
                    obtain ⟨th, hth⟩ : ∃ x, x = L / 8 := ⟨_, rfl⟩
                    obtain ⟨m1, hm1⟩ : ∃ x, x = mid + 1 := ⟨_, rfl⟩
                    have wlf : IntKind.i64.wrap ((mid : Int) - (a : Int)) = (lf : Int) := by rw [IntKind.wrap_i64]; have := HM5.out; omega
                    have wrt : IntKind.i64.wrap ((b : Int) - (mid : Int)) = (rt : Int) := by rw [IntKind.wrap_i64]; have := HM5.out; omega
                    have tth : ((L : Int)).tdiv 8 = (th : Int) := by rw [Int.tdiv_eq_ediv_of_nonneg (by omega)]; omega
                    have wth : IntKind.i64.wrap (th : Int) = (th : Int) := by rw [IntKind.wrap_i64]; have := HL.out; omega
                    have wm1 : IntKind.i64.wrap ((mid : Int) + 1) = (m1 : Int) := by rw [IntKind.wrap_i64]; have := HM5.out; omega
                    have HE5 := hid (show lf = mid - a ∧ rt = b - mid ∧ m1 = mid + 1 from ⟨hlf, hrt, hm1⟩)
                    clear hlf hrt hth hm1
                    by_cases hlr : lf < rt
                    · have ilr : (lf : Int) < (rt : Int) := by omega
                      have C6 := hid (Sz.call HS5.out (R := fun e => e = .returned (.tuple #[])) (fun l hl => IH.out (mid - a) (by have := HM5.out; omega) l a mid lim v5 (Nat.le_refl _) hl HM5.out.1 (by have := HM5.out; omega) (by omega) (by omega)))
                      go_wp2_with (go_at_call 39; with_reducible refine (C6.out).mono ?_; rintro e v6 ⟨rfl, HS6⟩)
                      go_roundw
                      case rel => exact ⟨m1, b, _, _, _, rfl, rfl, rfl, rfl, rfl, by have := HM5.out; have := HE5.out; omega, hbn, by have := HM5.out; have := HE5.out; omega, by omega, by omega, HS6⟩
                      case measure => have := HM5.out; have := HE5.out; first | (simp [intOf]; done) | (simp [intOf]; omega)
                    · have ilr : ¬ (lf : Int) < (rt : Int) := by omega
                      have dlr : decide ((lf : Int) < (rt : Int)) = false := decide_eq_false ilr
                      have C6 := hid (show Calls Try.prog 39 #[.slice (some ⟨g, 0, none⟩) n cap, .int .i64 m1, .int .i64 b, .int .i64 lim] v5 fun e w' => e = .returned (.tuple #[]) ∧ Hid (Sz w0 w' g n l0) from Sz.call HS5.out (R := fun e => e = .returned (.tuple #[])) (fun l hl => IH.out (b - m1) (by have := HM5.out; have := HE5.out; omega) l m1 b lim v5 (Nat.le_refl _) hl (by have := HM5.out; have := HE5.out; omega) hbn (by omega) (by omega)))
                      go_wp2_with (go_at_call 39; with_reducible refine (C6.out).mono ?_; rintro e v6 ⟨rfl, HS6⟩)
                      go_roundw
                      case rel => exact ⟨a, mid, _, _, _, rfl, rfl, rfl, rfl, rfl, by have := HM5.out; omega, by have := HM5.out; omega, by have := HM5.out; omega, by omega, by omega, HS6⟩
                      case measure => have := HM5.out; first | (simp [intOf]; done) | (simp [intOf]; omega)
        | false =>
          obtain ⟨lim2, hlim2⟩ : ∃ x, IntKind.i64.wrap (lim - 1) = x := ⟨_, rfl⟩
          have hl20 : -9223372036854775808 ≤ lim2 := by rw [← hlim2, IntKind.wrap_i64]; omega
          have hl21 : lim2 < 9223372036854775808 := by rw [← hlim2, IntKind.wrap_i64]; omega
          have C1 := hid (Sz.call HS.out (R := fun e => e = .returned (.tuple #[])) (fun l hl => brk_any g cap n l a b wr hl hab hbn hn))
          go_upto_region 10 with (go_at_call 52; with_reducible refine (C1.out).mono ?_; rintro e v1 ⟨rfl, HS1⟩)
          clear hlim2 hl0 hl1
          have C2 := hid (pivS (cap := cap) HS1.out (a := a) (b := b) (by have := HL.out; omega) hbn hn)
          go_upto_region 11 with (go_at_call 53; with_reducible refine (C2.out).mono ?_; rintro e v2 ⟨pv, t, rfl, HPV, HS2⟩)
          by_cases ht2 : t = 2
          · subst ht2
            have C3 := hid (Sz.call HS2.out (R := fun e => e = .returned (.tuple #[])) (fun l hl => rev_any g cap n l a b v2 hl hab hbn (by omega)))
            obtain ⟨b1, hb1⟩ : ∃ x, b = x + 1 := ⟨b - 1, by have := HL.out; omega⟩
            obtain ⟨pa, hpa⟩ : ∃ x, x = pv - a := ⟨_, rfl⟩
            obtain ⟨pw, hpw⟩ : ∃ x, x = b1 - pa := ⟨_, rfl⟩
            have wb1 : IntKind.i64.wrap ((b : Int) - 1) = (b1 : Int) := by rw [IntKind.wrap_i64]; omega
            have wpa : IntKind.i64.wrap ((pv : Int) - (a : Int)) = (pa : Int) := by rw [IntKind.wrap_i64]; have := HPV.out; omega
            have wpw : IntKind.i64.wrap ((b1 : Int) - (pa : Int)) = (pw : Int) := by rw [IntKind.wrap_i64]; have := HPV.out; omega
            have HPV := hid (show a ≤ pw ∧ pw < b from by have := HPV.out; omega)
            clear hb1 hpa hpw
            go_upto_region 15 with (go_at_call 54; with_reducible refine (C3.out).mono ?_; rintro e v3 ⟨rfl, HS3⟩)
            have HS := HS3
            obtain ⟨c, hc⟩ : ∃ c, c = a - 1 := ⟨_, rfl⟩
            have HCA := hid hc
            clear hc
            have pv1 : pw < n := by have := HPV.out; omega
            go_upto_region 17 with fail
            refine reg_any2 [73, 74, 75, 76, 77, 78, 79, 80, 81, 82, 83, 84, 85, 86, 87] (fun t X => Hid (∃ β : Bool, t 87 = .bool β ∧ (β = true → True)) ∧ Hid (Sz w0 X g n l0)) ?_ ?_
            · by_cases hle : 0 < a
              · have ile : (0 : Int) < (a : Int) := by omega
                obtain ⟨l, p1, u1, k1⟩ := HS.out
                obtain ⟨y, hy⟩ : ∃ y, gd l c = y := ⟨_, rfl⟩
                have cy : v3.cell? ⟨g, c, none⟩ = some (.int .u32 y) := by rw [← hy]; exact u1.cell (by have := HCA.out; omega)
                clear hy
                obtain ⟨z, hz⟩ : ∃ y, gd l pw = y := ⟨_, rfl⟩
                have cz : v3.cell? ⟨g, pw, none⟩ = some (.int .u32 z) := by rw [← hz]; exact u1.cell pv1
                clear hz
                clear p1 u1 k1 l; have wc : IntKind.i64.wrap ((a : Int) - 1) = (c : Int) := (by rw [IntKind.wrap_i64]; have := HCA.out; omega); have cc0 : (0 : Int) ≤ (c : Int) := (by omega); have cc2 : (c : Int) < (n : Int) := (by have := HCA.out; omega); have pp0 : (0 : Int) ≤ (pw : Int) := (by omega); have pp2 : (pw : Int) < (n : Int) := (by omega)
                have HLE := hid hle
                have ilT : decide (0 < a) = true := decide_eq_true hle
                go_quiet (first | (go_at_call 56; with_reducible exact Calls.quiet_of_same (less_any _ _ _)))
                have HQ := hid (HS.out.drewN nq)
                exact ⟨by kernel_rfl, hid ⟨_, by rfl, fun _ => trivial⟩, HQ⟩
              · have ilN : decide (0 < a) = false := decide_eq_false hle
                have ile' : ¬ (0 : Int) < (a : Int) := by omega
                have ile : decide ((0 : Int) < (a : Int)) = false := decide_eq_false (by omega)
                go_quiet (first | (go_at_call 56; with_reducible exact Calls.quiet_of_same (less_any _ _ _)))
                have HQ := hid (HS.out.drewN nq)
                exact ⟨by kernel_rfl, hid ⟨false, by rfl, fun _ => trivial⟩, HQ⟩
            · rintro t X ⟨HB, HSX⟩
              obtain ⟨β, eβ, hβ⟩ := HB.out
              simp only [puts, List.foldl_cons, List.foldl_nil, Act.put, List.setIfInBounds_toArray, List.set_cons_zero, List.set_cons_succ]
              rw [eβ]
              clear eβ HB
              clear hβ
              cases β with
              | true =>
                have C5 := hid (peqS (cap := cap) HSX.out (a := a) (b := b) (p := pw) HPV.out.1 HPV.out.2 hbn hn)
                go_wp2_with (go_at_call 57; with_reducible refine (C5.out).mono ?_; rintro e v5 ⟨mid, rfl, HM5, HS5⟩)
                go_roundw
                case rel => exact ⟨mid, b, _, _, _, rfl, rfl, rfl, rfl, rfl, by have := HM5.out; omega, hbn, by have := HM5.out; omega, by omega, by omega, HS5⟩
                case measure => have := HM5.out; first | (simp [intOf]; done) | (simp [intOf]; omega)
              | false =>
                have C5 := hid (partS (cap := cap) HSX.out (a := a) (b := b) (p := pw) HPV.out.1 HPV.out.2 hbn hn)
                go_upto_region 21 with (go_at_call 58; with_reducible refine (C5.out).mono ?_; rintro e v5 ⟨mid, r5, rfl, HM5, HS5⟩)
                obtain ⟨lf, hlf⟩ : ∃ x, x = mid - a := ⟨_, rfl⟩
                obtain ⟨rt, hrt⟩ : ∃ x, x = b - mid := ⟨_, rfl⟩
                obtain ⟨th, hth⟩ : ∃ x, x = L / 8 := ⟨_, rfl⟩
                obtain ⟨m1, hm1⟩ : ∃ x, x = mid + 1 := ⟨_, rfl⟩
                have wlf : IntKind.i64.wrap ((mid : Int) - (a : Int)) = (lf : Int) := by rw [IntKind.wrap_i64]; have := HM5.out; omega
                have wrt : IntKind.i64.wrap ((b : Int) - (mid : Int)) = (rt : Int) := by rw [IntKind.wrap_i64]; have := HM5.out; omega
                have tth : ((L : Int)).tdiv 8 = (th : Int) := by rw [Int.tdiv_eq_ediv_of_nonneg (by omega)]; omega
                have wth : IntKind.i64.wrap (th : Int) = (th : Int) := by rw [IntKind.wrap_i64]; have := HL.out; omega
                have wm1 : IntKind.i64.wrap ((mid : Int) + 1) = (m1 : Int) := by rw [IntKind.wrap_i64]; have := HM5.out; omega
                have HE5 := hid (show lf = mid - a ∧ rt = b - mid ∧ m1 = mid + 1 from ⟨hlf, hrt, hm1⟩)
                clear hlf hrt hth hm1
                by_cases hlr : lf < rt
                · have ilr : (lf : Int) < (rt : Int) := by omega
                  have C6 := hid (Sz.call HS5.out (R := fun e => e = .returned (.tuple #[])) (fun l hl => IH.out (mid - a) (by have := HM5.out; omega) l a mid lim2 v5 (Nat.le_refl _) hl HM5.out.1 (by have := HM5.out; omega) (by omega) (by omega)))
                  go_wp2_with (go_at_call 39; with_reducible refine (C6.out).mono ?_; rintro e v6 ⟨rfl, HS6⟩)
                  go_roundw
                  case rel => exact ⟨m1, b, _, _, _, rfl, rfl, rfl, rfl, rfl, by have := HM5.out; have := HE5.out; omega, hbn, by have := HM5.out; have := HE5.out; omega, by omega, by omega, HS6⟩
                  case measure => have := HM5.out; have := HE5.out; first | (simp [intOf]; done) | (simp [intOf]; omega)
                · have ilr : ¬ (lf : Int) < (rt : Int) := by omega
                  have dlr : decide ((lf : Int) < (rt : Int)) = false := decide_eq_false ilr
                  have C6 := hid (show Calls Try.prog 39 #[.slice (some ⟨g, 0, none⟩) n cap, .int .i64 m1, .int .i64 b, .int .i64 lim2] v5 fun e w' => e = .returned (.tuple #[]) ∧ Hid (Sz w0 w' g n l0) from Sz.call HS5.out (R := fun e => e = .returned (.tuple #[])) (fun l hl => IH.out (b - m1) (by have := HM5.out; have := HE5.out; omega) l m1 b lim2 v5 (Nat.le_refl _) hl (by have := HM5.out; have := HE5.out; omega) hbn (by omega) (by omega)))
                  go_wp2_with (go_at_call 39; with_reducible refine (C6.out).mono ?_; rintro e v6 ⟨rfl, HS6⟩)
                  go_roundw
                  case rel => exact ⟨a, mid, _, _, _, rfl, rfl, rfl, rfl, rfl, by have := HM5.out; omega, by have := HM5.out; omega, by have := HM5.out; omega, by omega, by omega, HS6⟩
                  case measure => have := HM5.out; first | (simp [intOf]; done) | (simp [intOf]; omega)
          · have et2 : (t == 2) = false := by simp [ht2]
            clear ht2
            have HS := HS2
            obtain ⟨c, hc⟩ : ∃ c, c = a - 1 := ⟨_, rfl⟩
            have HCA := hid hc
            clear hc
            have pv1 : pv < n := by have := HPV.out; omega
            go_upto_region 17 with fail
            refine reg_any2 [73, 74, 75, 76, 77, 78, 79, 80, 81, 82, 83, 84, 85, 86, 87] (fun t X => Hid (∃ β : Bool, t 87 = .bool β ∧ (β = true → True)) ∧ Hid (Sz w0 X g n l0)) ?_ ?_
            · by_cases hle : 0 < a
              · have ile : (0 : Int) < (a : Int) := by omega
                obtain ⟨l, p1, u1, k1⟩ := HS.out
                obtain ⟨y, hy⟩ : ∃ y, gd l c = y := ⟨_, rfl⟩
                have cy : v2.cell? ⟨g, c, none⟩ = some (.int .u32 y) := by rw [← hy]; exact u1.cell (by have := HCA.out; omega)
                clear hy
                obtain ⟨z, hz⟩ : ∃ y, gd l pv = y := ⟨_, rfl⟩
                have cz : v2.cell? ⟨g, pv, none⟩ = some (.int .u32 z) := by rw [← hz]; exact u1.cell pv1
                clear hz
                clear p1 u1 k1 l; have wc : IntKind.i64.wrap ((a : Int) - 1) = (c : Int) := (by rw [IntKind.wrap_i64]; have := HCA.out; omega); have cc0 : (0 : Int) ≤ (c : Int) := (by omega); have cc2 : (c : Int) < (n : Int) := (by have := HCA.out; omega); have pp0 : (0 : Int) ≤ (pv : Int) := (by omega); have pp2 : (pv : Int) < (n : Int) := (by omega)
                have HLE := hid hle
                have ilT : decide (0 < a) = true := decide_eq_true hle
                go_quiet (first | (go_at_call 56; with_reducible exact Calls.quiet_of_same (less_any _ _ _)))
                have HQ := hid (HS.out.drewN nq)
                exact ⟨by kernel_rfl, hid ⟨_, by rfl, fun _ => trivial⟩, HQ⟩
              · have ilN : decide (0 < a) = false := decide_eq_false hle
                have ile' : ¬ (0 : Int) < (a : Int) := by omega
                have ile : decide ((0 : Int) < (a : Int)) = false := decide_eq_false (by omega)
                go_quiet (first | (go_at_call 56; with_reducible exact Calls.quiet_of_same (less_any _ _ _)))
                have HQ := hid (HS.out.drewN nq)
                exact ⟨by kernel_rfl, hid ⟨false, by rfl, fun _ => trivial⟩, HQ⟩
            · rintro t X ⟨HB, HSX⟩
              obtain ⟨β, eβ, hβ⟩ := HB.out
              simp only [puts, List.foldl_cons, List.foldl_nil, Act.put, List.setIfInBounds_toArray, List.set_cons_zero, List.set_cons_succ]
              rw [eβ]
              clear eβ HB
              clear hβ
              cases β with
              | true =>
                have C5 := hid (peqS (cap := cap) HSX.out (a := a) (b := b) (p := pv) HPV.out.1 HPV.out.2 hbn hn)
                go_wp2_with (go_at_call 57; with_reducible refine (C5.out).mono ?_; rintro e v5 ⟨mid, rfl, HM5, HS5⟩)
                go_roundw
                case rel => exact ⟨mid, b, _, _, _, rfl, rfl, rfl, rfl, rfl, by have := HM5.out; omega, hbn, by have := HM5.out; omega, by omega, by omega, HS5⟩
                case measure => have := HM5.out; first | (simp [intOf]; done) | (simp [intOf]; omega)
              | false =>
                have C5 := hid (partS (cap := cap) HSX.out (a := a) (b := b) (p := pv) HPV.out.1 HPV.out.2 hbn hn)
                go_upto_region 21 with (go_at_call 58; with_reducible refine (C5.out).mono ?_; rintro e v5 ⟨mid, r5, rfl, HM5, HS5⟩)
                obtain ⟨lf, hlf⟩ : ∃ x, x = mid - a := ⟨_, rfl⟩
                obtain ⟨rt, hrt⟩ : ∃ x, x = b - mid := ⟨_, rfl⟩
                obtain ⟨th, hth⟩ : ∃ x, x = L / 8 := ⟨_, rfl⟩
                obtain ⟨m1, hm1⟩ : ∃ x, x = mid + 1 := ⟨_, rfl⟩
                have wlf : IntKind.i64.wrap ((mid : Int) - (a : Int)) = (lf : Int) := by rw [IntKind.wrap_i64]; have := HM5.out; omega
                have wrt : IntKind.i64.wrap ((b : Int) - (mid : Int)) = (rt : Int) := by rw [IntKind.wrap_i64]; have := HM5.out; omega
                have tth : ((L : Int)).tdiv 8 = (th : Int) := by rw [Int.tdiv_eq_ediv_of_nonneg (by omega)]; omega
                have wth : IntKind.i64.wrap (th : Int) = (th : Int) := by rw [IntKind.wrap_i64]; have := HL.out; omega
                have wm1 : IntKind.i64.wrap ((mid : Int) + 1) = (m1 : Int) := by rw [IntKind.wrap_i64]; have := HM5.out; omega
                have HE5 := hid (show lf = mid - a ∧ rt = b - mid ∧ m1 = mid + 1 from ⟨hlf, hrt, hm1⟩)
                clear hlf hrt hth hm1
                by_cases hlr : lf < rt
                · have ilr : (lf : Int) < (rt : Int) := by omega
                  have C6 := hid (Sz.call HS5.out (R := fun e => e = .returned (.tuple #[])) (fun l hl => IH.out (mid - a) (by have := HM5.out; omega) l a mid lim2 v5 (Nat.le_refl _) hl HM5.out.1 (by have := HM5.out; omega) (by omega) (by omega)))
                  go_wp2_with (go_at_call 39; with_reducible refine (C6.out).mono ?_; rintro e v6 ⟨rfl, HS6⟩)
                  go_roundw
                  case rel => exact ⟨m1, b, _, _, _, rfl, rfl, rfl, rfl, rfl, by have := HM5.out; have := HE5.out; omega, hbn, by have := HM5.out; have := HE5.out; omega, by omega, by omega, HS6⟩
                  case measure => have := HM5.out; have := HE5.out; first | (simp [intOf]; done) | (simp [intOf]; omega)
                · have ilr : ¬ (lf : Int) < (rt : Int) := by omega
                  have dlr : decide ((lf : Int) < (rt : Int)) = false := decide_eq_false ilr
                  have C6 := hid (show Calls Try.prog 39 #[.slice (some ⟨g, 0, none⟩) n cap, .int .i64 m1, .int .i64 b, .int .i64 lim2] v5 fun e w' => e = .returned (.tuple #[]) ∧ Hid (Sz w0 w' g n l0) from Sz.call HS5.out (R := fun e => e = .returned (.tuple #[])) (fun l hl => IH.out (b - m1) (by have := HM5.out; have := HE5.out; omega) l m1 b lim2 v5 (Nat.le_refl _) hl (by have := HM5.out; have := HE5.out; omega) hbn (by omega) (by omega)))
                  go_wp2_with (go_at_call 39; with_reducible refine (C6.out).mono ?_; rintro e v6 ⟨rfl, HS6⟩)
                  go_roundw
                  case rel => exact ⟨a, mid, _, _, _, rfl, rfl, rfl, rfl, rfl, by have := HM5.out; omega, by have := HM5.out; omega, by have := HM5.out; omega, by omega, by omega, HS6⟩
                  case measure => have := HM5.out; first | (simp [intOf]; done) | (simp [intOf]; omega)
end Go.Proofs.Ytphhllppgelceaa.Sr
