/-
  What a command is refused for by itself.
-/
import Derived.Test.YthdikkchblmebaaRuK
namespace Go.Proofs.Ythdikkchblmebaa
open Go.RowKit Go.Deep Go.Shelf
set_option linter.unusedVariables false
set_option linter.unusedSimpArgs false
set_option maxHeartbeats 4000000
set_option maxRecDepth 100000
/-- a command. -/
structure Cm where
  kd : Int
  id : Int
  tg : Int
  mb : Int
  sd : Int
  ty : Int
  pr : Int
  qt : Int
  pk : Int
def cmr (c : Cm) : Array Value := #[.int .i64 c.kd, .int .u64 c.id, .int .u64 c.tg, .int .u32 c.mb, .int .i64 c.sd, .int .i64 c.ty, .int .i64 c.pr, .int .u64 c.qt, .int .u64 c.pk]
/-- its words fit. -/
structure CmOk (c : Cm) : Prop where
  id0 : 0 ≤ c.id
  id1 : c.id < 18446744073709551616
  mb0 : 0 ≤ c.mb
  mb1 : c.mb < 4294967296
  qt0 : 0 ≤ c.qt
  qt1 : c.qt < 18446744073709551616
  pk0 : 0 ≤ c.pk
  pk1 : c.pk < 18446744073709551616
def isSd (s : Int) : Bool := s == 1 || s == 2
theorem isSide_any (s : Int) (w : World) : Calls Try.prog 29 #[.int .i64 s] w fun e w' => e = .returned (.bool (isSd s)) ∧ w' = w := by
  by_cases h : s = 1
  · subst h
    go_enter Try.func29, Try.ntmps29
    go_wp2
    go_ret
    exact ⟨by simp [isSd], rfl⟩
  · have h1 : (s == 1) = false := by simpa using h
    go_enter Try.func29, Try.ntmps29
    go_wp2
    go_ret
    exact ⟨by simp [isSd, h1], rfl⟩
def isPr (p : Int) : Bool := decide (0 ≤ p) && decide (p < 262144)
theorem isPrice_any (p : Int) (w : World) : Calls Try.prog 30 #[.int .i64 p] w fun e w' => e = .returned (.bool (isPr p)) ∧ w' = w := by
  by_cases h : 0 ≤ p
  · have h1 : decide (0 ≤ p) = true := by simpa using h
    go_enter Try.func30, Try.ntmps30
    go_wp2
    go_ret
    exact ⟨by simp [isPr, h], rfl⟩
  · have h1 : decide (0 ≤ p) = false := by simpa using h
    go_enter Try.func30, Try.ntmps30
    go_wp2
    go_ret
    exact ⟨by simp [isPr, show ¬ 0 ≤ p by omega], rfl⟩
def pkF (c : Cm) : Bool := rst c.ty && decide (c.pk ≤ c.qt) && decide (c.qt ≤ 256 * c.pk)
theorem peakFits_any (c : Cm) (w : World) (h0 : 0 ≤ c.pk) (h1 : c.qt ≤ 4294967295) : Calls Try.prog 31 #[.agg (cmr c)] w fun e w' => e = .returned (.bool (pkF c)) ∧ Below w.heap.size w w' := by
  have C := hid (fun U => rests_any c.ty U)
  unfold cmr
  obtain ⟨v, hv⟩ : ∃ v, rst c.ty = v := ⟨_, rfl⟩
  rw [hv] at C
  unfold pkF
  rw [hv]
  clear hv
  cases v with
  | false =>
    go_enter Try.func31, Try.ntmps31
    go_wp2_with (go_at_call 37; with_reducible refine (C.out _).mono ?_; rintro e w1 ⟨rfl, rfl⟩)
    go_ret
    exact ⟨by simp, ball _ _⟩
  | true =>
    by_cases h2 : c.pk ≤ c.qt
    · have h3 : IntKind.u64.wrap (256 * c.pk) = 256 * c.pk := by rw [IntKind.wrap_u64]; omega
      go_enter Try.func31, Try.ntmps31
      go_wp2_with (go_at_call 37; with_reducible refine (C.out _).mono ?_; rintro e w1 ⟨rfl, rfl⟩)
      go_ret
      exact ⟨by simp [h2], ball _ _⟩
    · go_enter Try.func31, Try.ntmps31
      go_wp2_with (go_at_call 37; with_reducible refine (C.out _).mono ?_; rintro e w1 ⟨rfl, rfl⟩)
      go_ret
      exact ⟨by simp [show ¬ c.pk ≤ c.qt by omega], ball _ _⟩
/-- what an order is refused for. -/
def chO (c : Cm) : Int :=
  if isSd c.sd = false then 92
  else if c.ty < 1 ∨ 5 < c.ty then 93
  else if isPr c.pr = false ∨ (c.ty = 2 ∧ c.pr ≠ 0) then 94
  else if c.qt < 1 ∨ 4294967295 < c.qt then 95
  else if c.pk ≠ 0 ∧ pkF c = false then 96
  else if c.id = 0 then 97
  else 0
theorem bcell {W w1 : World} (hb : Below W.heap.size W w1) : (∀ b o, b < W.heap.size → w1.cell? ⟨b, o, none⟩ = W.cell? ⟨b, o, none⟩) ∧ (∀ b o, b < W.heap.size → w1.frozen? ⟨b, o, none⟩ = W.frozen? ⟨b, o, none⟩) :=
  ⟨fun b o h => hb.cell (p := ⟨b, o, none⟩) h, fun b o h => hb.frozen (p := ⟨b, o, none⟩) h⟩
theorem chO_rest (c : Cm) (w : World) (hc : CmOk c) (r : Int) (hr : (if c.qt < 1 ∨ 4294967295 < c.qt then 95 else if c.pk ≠ 0 ∧ pkF c = false then 96 else if c.id = 0 then 97 else 0) = r)
    (CS : Hid (∀ U, Calls Try.prog 29 #[.int .i64 c.sd] U fun e w' => e = .returned (.bool true) ∧ w' = U)) (CP : Hid (∀ U, Calls Try.prog 30 #[.int .i64 c.pr] U fun e w' => e = .returned (.bool true) ∧ w' = U))
    (t1 : ¬ c.ty < 1) (t2 : ¬ 5 < c.ty) (t6 : (c.ty == 2) = true → (c.pr != 0) = false) : Calls Try.prog 17 #[.agg (cmr c)] w fun e w' => e = .returned (.int .i64 r) ∧ Below w.heap.size w w' := by
  have HC := hid hc
  have HR := hid hr
  clear hc hr
  by_cases q1 : c.qt < 1
  · have := HR.out
    rw [if_pos (.inl q1)] at this
    subst this
    clear HR
    by_cases ty2 : (c.ty == 2) = true
    · have pr0 := t6 ty2
      clear t6
      unfold cmr
      go_enter Try.func17, Try.ntmps17
      go_wp2_with (first | (go_at_call 29; with_reducible refine (CS.out _).mono ?_; rintro e w1 ⟨rfl, rfl⟩) | (go_at_call 30; with_reducible refine (CP.out _).mono ?_; rintro e w1 ⟨rfl, rfl⟩) | (go_at_call 31; with_reducible refine (CK.out _).mono ?_; rintro e w1 ⟨rfl, hb1⟩; obtain ⟨hcl, hfz⟩ := bcell hb1; have hz1 : w.heap.size < w1.heap.size := (by have := hb1.size; simp at this; omega); have HB1 := hid hb1; clear hb1))
      go_ret
      exact ⟨rfl, ball _ _⟩
    · have ty2' : (c.ty == 2) = false := by simpa using ty2
      clear t6 ty2
      unfold cmr
      go_enter Try.func17, Try.ntmps17
      go_wp2_with (first | (go_at_call 29; with_reducible refine (CS.out _).mono ?_; rintro e w1 ⟨rfl, rfl⟩) | (go_at_call 30; with_reducible refine (CP.out _).mono ?_; rintro e w1 ⟨rfl, rfl⟩) | (go_at_call 31; with_reducible refine (CK.out _).mono ?_; rintro e w1 ⟨rfl, hb1⟩; obtain ⟨hcl, hfz⟩ := bcell hb1; have hz1 : w.heap.size < w1.heap.size := (by have := hb1.size; simp at this; omega); have HB1 := hid hb1; clear hb1))
      go_ret
      exact ⟨rfl, ball _ _⟩
  · by_cases q2 : 4294967295 < c.qt
    · have := HR.out
      rw [if_pos (.inr q2)] at this
      subst this
      clear HR
      by_cases ty2 : (c.ty == 2) = true
      · have pr0 := t6 ty2
        clear t6
        unfold cmr
        go_enter Try.func17, Try.ntmps17
        go_wp2_with (first | (go_at_call 29; with_reducible refine (CS.out _).mono ?_; rintro e w1 ⟨rfl, rfl⟩) | (go_at_call 30; with_reducible refine (CP.out _).mono ?_; rintro e w1 ⟨rfl, rfl⟩) | (go_at_call 31; with_reducible refine (CK.out _).mono ?_; rintro e w1 ⟨rfl, hb1⟩; obtain ⟨hcl, hfz⟩ := bcell hb1; have hz1 : w.heap.size < w1.heap.size := (by have := hb1.size; simp at this; omega); have HB1 := hid hb1; clear hb1))
        go_ret
        exact ⟨rfl, ball _ _⟩
      · have ty2' : (c.ty == 2) = false := by simpa using ty2
        clear t6 ty2
        unfold cmr
        go_enter Try.func17, Try.ntmps17
        go_wp2_with (first | (go_at_call 29; with_reducible refine (CS.out _).mono ?_; rintro e w1 ⟨rfl, rfl⟩) | (go_at_call 30; with_reducible refine (CP.out _).mono ?_; rintro e w1 ⟨rfl, rfl⟩) | (go_at_call 31; with_reducible refine (CK.out _).mono ?_; rintro e w1 ⟨rfl, hb1⟩; obtain ⟨hcl, hfz⟩ := bcell hb1; have hz1 : w.heap.size < w1.heap.size := (by have := hb1.size; simp at this; omega); have HB1 := hid hb1; clear hb1))
        go_ret
        exact ⟨rfl, ball _ _⟩
    · rw [if_neg (by omega)] at HR
      have CK := hid (fun U => peakFits_any c U HC.out.pk0 (by omega))
      unfold cmr at CK
      obtain ⟨v, hv⟩ : ∃ v, pkF c = v := ⟨_, rfl⟩
      rw [hv] at CK HR
      clear hv
      obtain ⟨tv, htv⟩ : ∃ tv, (c.ty == 2) = tv := ⟨_, rfl⟩
      by_cases p0 : c.pk = 0
      · rw [if_neg (fun h => h.1 p0)] at HR
        have p0' : (c.pk != 0) = false := by simpa using p0
        clear p0
        by_cases i0 : c.id = 0
        · have := HR.out
          rw [if_pos i0] at this
          subst this
          have i0' : (c.id == 0) = true := by simpa using i0
          clear HR i0
          cases tv with
          | true =>
            have pr0 := t6 htv
            clear t6
            unfold cmr
            go_enter Try.func17, Try.ntmps17
            go_wp2_with (first | (go_at_call 29; with_reducible refine (CS.out _).mono ?_; rintro e w1 ⟨rfl, rfl⟩) | (go_at_call 30; with_reducible refine (CP.out _).mono ?_; rintro e w1 ⟨rfl, rfl⟩) | (go_at_call 31; with_reducible refine (CK.out _).mono ?_; rintro e w1 ⟨rfl, hb1⟩; obtain ⟨hcl, hfz⟩ := bcell hb1; have hz1 : w.heap.size < w1.heap.size := (by have := hb1.size; simp at this; omega); have HB1 := hid hb1; clear hb1))
            go_ret
            exact ⟨rfl, ball _ _⟩
          | false =>
            clear t6
            unfold cmr
            go_enter Try.func17, Try.ntmps17
            go_wp2_with (first | (go_at_call 29; with_reducible refine (CS.out _).mono ?_; rintro e w1 ⟨rfl, rfl⟩) | (go_at_call 30; with_reducible refine (CP.out _).mono ?_; rintro e w1 ⟨rfl, rfl⟩) | (go_at_call 31; with_reducible refine (CK.out _).mono ?_; rintro e w1 ⟨rfl, hb1⟩; obtain ⟨hcl, hfz⟩ := bcell hb1; have hz1 : w.heap.size < w1.heap.size := (by have := hb1.size; simp at this; omega); have HB1 := hid hb1; clear hb1))
            go_ret
            exact ⟨rfl, ball _ _⟩
        · have := HR.out
          rw [if_neg i0] at this
          subst this
          have i0' : (c.id == 0) = false := by simpa using i0
          clear HR i0
          cases tv with
          | true =>
            have pr0 := t6 htv
            clear t6
            unfold cmr
            go_enter Try.func17, Try.ntmps17
            go_wp2_with (first | (go_at_call 29; with_reducible refine (CS.out _).mono ?_; rintro e w1 ⟨rfl, rfl⟩) | (go_at_call 30; with_reducible refine (CP.out _).mono ?_; rintro e w1 ⟨rfl, rfl⟩) | (go_at_call 31; with_reducible refine (CK.out _).mono ?_; rintro e w1 ⟨rfl, hb1⟩; obtain ⟨hcl, hfz⟩ := bcell hb1; have hz1 : w.heap.size < w1.heap.size := (by have := hb1.size; simp at this; omega); have HB1 := hid hb1; clear hb1))
            go_ret
            exact ⟨rfl, ball _ _⟩
          | false =>
            clear t6
            unfold cmr
            go_enter Try.func17, Try.ntmps17
            go_wp2_with (first | (go_at_call 29; with_reducible refine (CS.out _).mono ?_; rintro e w1 ⟨rfl, rfl⟩) | (go_at_call 30; with_reducible refine (CP.out _).mono ?_; rintro e w1 ⟨rfl, rfl⟩) | (go_at_call 31; with_reducible refine (CK.out _).mono ?_; rintro e w1 ⟨rfl, hb1⟩; obtain ⟨hcl, hfz⟩ := bcell hb1; have hz1 : w.heap.size < w1.heap.size := (by have := hb1.size; simp at this; omega); have HB1 := hid hb1; clear hb1))
            go_ret
            exact ⟨rfl, ball _ _⟩
      · have p0' : (c.pk != 0) = true := by simpa using p0
        cases v with
        | false =>
          have := HR.out
          rw [if_pos ⟨p0, rfl⟩] at this
          subst this
          clear HR p0
          cases tv with
          | true =>
            have pr0 := t6 htv
            clear t6
            unfold cmr
            go_enter Try.func17, Try.ntmps17
            go_wp2_with (first | (go_at_call 29; with_reducible refine (CS.out _).mono ?_; rintro e w1 ⟨rfl, rfl⟩) | (go_at_call 30; with_reducible refine (CP.out _).mono ?_; rintro e w1 ⟨rfl, rfl⟩) | (go_at_call 31; with_reducible refine (CK.out _).mono ?_; rintro e w1 ⟨rfl, hb1⟩; obtain ⟨hcl, hfz⟩ := bcell hb1; have hz1 : w.heap.size < w1.heap.size := (by have := hb1.size; simp at this; omega); have HB1 := hid hb1; clear hb1))
            go_ret
            exact ⟨rfl, btr (ball _ _) HB1.out⟩
          | false =>
            clear t6
            unfold cmr
            go_enter Try.func17, Try.ntmps17
            go_wp2_with (first | (go_at_call 29; with_reducible refine (CS.out _).mono ?_; rintro e w1 ⟨rfl, rfl⟩) | (go_at_call 30; with_reducible refine (CP.out _).mono ?_; rintro e w1 ⟨rfl, rfl⟩) | (go_at_call 31; with_reducible refine (CK.out _).mono ?_; rintro e w1 ⟨rfl, hb1⟩; obtain ⟨hcl, hfz⟩ := bcell hb1; have hz1 : w.heap.size < w1.heap.size := (by have := hb1.size; simp at this; omega); have HB1 := hid hb1; clear hb1))
            go_ret
            exact ⟨rfl, btr (ball _ _) HB1.out⟩
        | true =>
          rw [if_neg (fun h => by cases h.2)] at HR
          clear p0
          by_cases i0 : c.id = 0
          · have := HR.out
            rw [if_pos i0] at this
            subst this
            have i0' : (c.id == 0) = true := by simpa using i0
            clear HR i0
            cases tv with
            | true =>
              have pr0 := t6 htv
              clear t6
              unfold cmr
              go_enter Try.func17, Try.ntmps17
              go_wp2_with (first | (go_at_call 29; with_reducible refine (CS.out _).mono ?_; rintro e w1 ⟨rfl, rfl⟩) | (go_at_call 30; with_reducible refine (CP.out _).mono ?_; rintro e w1 ⟨rfl, rfl⟩) | (go_at_call 31; with_reducible refine (CK.out _).mono ?_; rintro e w1 ⟨rfl, hb1⟩; obtain ⟨hcl, hfz⟩ := bcell hb1; have hz1 : w.heap.size < w1.heap.size := (by have := hb1.size; simp at this; omega); have HB1 := hid hb1; clear hb1))
              go_ret
              exact ⟨rfl, btr (ball _ _) HB1.out⟩
            | false =>
              clear t6
              unfold cmr
              go_enter Try.func17, Try.ntmps17
              go_wp2_with (first | (go_at_call 29; with_reducible refine (CS.out _).mono ?_; rintro e w1 ⟨rfl, rfl⟩) | (go_at_call 30; with_reducible refine (CP.out _).mono ?_; rintro e w1 ⟨rfl, rfl⟩) | (go_at_call 31; with_reducible refine (CK.out _).mono ?_; rintro e w1 ⟨rfl, hb1⟩; obtain ⟨hcl, hfz⟩ := bcell hb1; have hz1 : w.heap.size < w1.heap.size := (by have := hb1.size; simp at this; omega); have HB1 := hid hb1; clear hb1))
              go_ret
              exact ⟨rfl, btr (ball _ _) HB1.out⟩
          · have := HR.out
            rw [if_neg i0] at this
            subst this
            have i0' : (c.id == 0) = false := by simpa using i0
            clear HR i0
            cases tv with
            | true =>
              have pr0 := t6 htv
              clear t6
              unfold cmr
              go_enter Try.func17, Try.ntmps17
              go_wp2_with (first | (go_at_call 29; with_reducible refine (CS.out _).mono ?_; rintro e w1 ⟨rfl, rfl⟩) | (go_at_call 30; with_reducible refine (CP.out _).mono ?_; rintro e w1 ⟨rfl, rfl⟩) | (go_at_call 31; with_reducible refine (CK.out _).mono ?_; rintro e w1 ⟨rfl, hb1⟩; obtain ⟨hcl, hfz⟩ := bcell hb1; have hz1 : w.heap.size < w1.heap.size := (by have := hb1.size; simp at this; omega); have HB1 := hid hb1; clear hb1))
              go_ret
              exact ⟨rfl, btr (ball _ _) HB1.out⟩
            | false =>
              clear t6
              unfold cmr
              go_enter Try.func17, Try.ntmps17
              go_wp2_with (first | (go_at_call 29; with_reducible refine (CS.out _).mono ?_; rintro e w1 ⟨rfl, rfl⟩) | (go_at_call 30; with_reducible refine (CP.out _).mono ?_; rintro e w1 ⟨rfl, rfl⟩) | (go_at_call 31; with_reducible refine (CK.out _).mono ?_; rintro e w1 ⟨rfl, hb1⟩; obtain ⟨hcl, hfz⟩ := bcell hb1; have hz1 : w.heap.size < w1.heap.size := (by have := hb1.size; simp at this; omega); have HB1 := hid hb1; clear hb1))
              go_ret
              exact ⟨rfl, btr (ball _ _) HB1.out⟩
theorem checkOrder_any (c : Cm) (w : World) (hc : CmOk c) : Calls Try.prog 17 #[.agg (cmr c)] w fun e w' => e = .returned (.int .i64 (chO c)) ∧ Below w.heap.size w w' := by
  have CS := hid (fun U => isSide_any c.sd U)
  have CP := hid (fun U => isPrice_any c.pr U)
  obtain ⟨v1, hv1⟩ : ∃ v, isSd c.sd = v := ⟨_, rfl⟩
  obtain ⟨v2, hv2⟩ : ∃ v, isPr c.pr = v := ⟨_, rfl⟩
  rw [hv1] at CS
  rw [hv2] at CP
  have HC := hid hc
  obtain ⟨r, hr⟩ : ∃ r, chO c = r := ⟨_, rfl⟩
  have HR := hid hr
  unfold chO at HR
  rw [hv1, hv2] at HR
  rw [hr]
  clear hr hv1 hv2 hc
  cases v1 with
  | false =>
    have := HR.out
    simp only [if_true] at this
    subst this
    unfold cmr
    go_enter Try.func17, Try.ntmps17
    go_wp2_with (go_at_call 29; with_reducible refine (CS.out _).mono ?_; rintro e w1 ⟨rfl, rfl⟩)
    go_ret
    exact ⟨rfl, ball _ _⟩
  | true =>
    simp only [Bool.true_eq_false, if_false] at HR
    by_cases t1 : c.ty < 1
    · have := HR.out
      rw [if_pos (.inl t1)] at this
      subst this
      clear HR
      unfold cmr
      go_enter Try.func17, Try.ntmps17
      go_wp2_with (first | (go_at_call 29; with_reducible refine (CS.out _).mono ?_; rintro e w1 ⟨rfl, rfl⟩) | (go_at_call 30; with_reducible refine (CP.out _).mono ?_; rintro e w1 ⟨rfl, rfl⟩) | (go_at_call 31; with_reducible refine (CK.out _).mono ?_; rintro e w1 ⟨rfl, hb1⟩; obtain ⟨hcl, hfz⟩ := bcell hb1; have hz1 : w.heap.size < w1.heap.size := (by have := hb1.size; simp at this; omega); have HB1 := hid hb1; clear hb1))
      go_ret
      exact ⟨rfl, ball _ _⟩
    · by_cases t2 : 5 < c.ty
      · have := HR.out
        rw [if_pos (.inr t2)] at this
        subst this
        clear HR
        unfold cmr
        go_enter Try.func17, Try.ntmps17
        go_wp2_with (first | (go_at_call 29; with_reducible refine (CS.out _).mono ?_; rintro e w1 ⟨rfl, rfl⟩) | (go_at_call 30; with_reducible refine (CP.out _).mono ?_; rintro e w1 ⟨rfl, rfl⟩) | (go_at_call 31; with_reducible refine (CK.out _).mono ?_; rintro e w1 ⟨rfl, hb1⟩; obtain ⟨hcl, hfz⟩ := bcell hb1; have hz1 : w.heap.size < w1.heap.size := (by have := hb1.size; simp at this; omega); have HB1 := hid hb1; clear hb1))
        go_ret
        exact ⟨rfl, ball _ _⟩
      · rw [if_neg (by omega)] at HR
        cases v2 with
        | false =>
          have := HR.out
          rw [if_pos (.inl rfl)] at this
          subst this
          clear HR
          unfold cmr
          go_enter Try.func17, Try.ntmps17
          go_wp2_with (first | (go_at_call 29; with_reducible refine (CS.out _).mono ?_; rintro e w1 ⟨rfl, rfl⟩) | (go_at_call 30; with_reducible refine (CP.out _).mono ?_; rintro e w1 ⟨rfl, rfl⟩) | (go_at_call 31; with_reducible refine (CK.out _).mono ?_; rintro e w1 ⟨rfl, hb1⟩; obtain ⟨hcl, hfz⟩ := bcell hb1; have hz1 : w.heap.size < w1.heap.size := (by have := hb1.size; simp at this; omega); have HB1 := hid hb1; clear hb1))
          go_ret
          exact ⟨rfl, ball _ _⟩
        | true =>
          by_cases t3 : c.ty = 2 ∧ c.pr ≠ 0
          · have := HR.out
            rw [if_pos (.inr t3)] at this
            subst this
            clear HR
            obtain ⟨t4, t5⟩ := t3
            have t4' : (c.ty == 2) = true := by simpa using t4
            have t5' : (c.pr != 0) = true := by simpa using t5
            clear t4 t5
            unfold cmr
            go_enter Try.func17, Try.ntmps17
            go_wp2_with (first | (go_at_call 29; with_reducible refine (CS.out _).mono ?_; rintro e w1 ⟨rfl, rfl⟩) | (go_at_call 30; with_reducible refine (CP.out _).mono ?_; rintro e w1 ⟨rfl, rfl⟩) | (go_at_call 31; with_reducible refine (CK.out _).mono ?_; rintro e w1 ⟨rfl, hb1⟩; obtain ⟨hcl, hfz⟩ := bcell hb1; have hz1 : w.heap.size < w1.heap.size := (by have := hb1.size; simp at this; omega); have HB1 := hid hb1; clear hb1))
            go_ret
            exact ⟨rfl, ball _ _⟩
          · rw [if_neg (by rintro (h | h); cases h; exact t3 h)] at HR
            have t6 : (c.ty == 2) = true → (c.pr != 0) = false := by
              intro h
              have h1 : c.ty = 2 := by simpa using h
              have h2 : c.pr = 0 := by
                by_cases h2 : c.pr = 0
                · exact h2
                · exact absurd ⟨h1, h2⟩ t3
              simp [h2]
            clear t3
            refine chO_rest c w HC.out r HR.out CS CP (by omega) (by omega) t6
end Go.Proofs.Ythdikkchblmebaa
