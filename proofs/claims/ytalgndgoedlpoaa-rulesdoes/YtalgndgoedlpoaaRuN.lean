/-
  RuL RuN
-/
import Derived.Test.YtalgndgoedlpoaaRuK
namespace Go.Proofs.Ytalgndgoedlpoaa
section
open Go.RowKit Go.Deep Go.Shelf
set_option linter.unusedVariables false
set_option linter.unusedSimpArgs false
set_option maxHeartbeats 4000000
set_option maxRecDepth 100000
/-- a command. -/
structure Cm where
 kd : Int
 id : Int
 tg : Int
 mb : Int
 sd : Int
 ty : Int
 pr : Int
 qt : Int
 pk : Int
def cmr (c : Cm) : Array Value := #[.int .i64 c.kd, .int .u64 c.id, .int .u64 c.tg, .int .u32 c.mb, .int .i64 c.sd, .int .i64 c.ty, .int .i64 c.pr, .int .u64 c.qt, .int .u64 c.pk]
/-- its words fit. -/
structure CmOk (c : Cm) : Prop where
 id0 : 0 ≤ c.id
 id1 : c.id < 18446744073709551616
 mb0 : 0 ≤ c.mb
 mb1 : c.mb < 4294967296
 qt0 : 0 ≤ c.qt
 qt1 : c.qt < 18446744073709551616
 pk0 : 0 ≤ c.pk
 pk1 : c.pk < 18446744073709551616
def isSd (s : Int) : Bool := s == 1 || s == 2
theorem isSide_any (s : Int) (w : World) : Calls Try.prog 70 #[.int .i64 s] w fun e w' => e = .returned (.bool (isSd s)) ∧ w' = w := by
 by_cases h : s = 1
 ·subst h
  go_enter Try.func70, Try.ntmps70
  go_wp2
  go_ret
  exact ⟨by simp [isSd], rfl⟩
 ·have h1 : (s == 1) = false := by simpa using h
  go_enter Try.func70, Try.ntmps70
  go_wp2
  go_ret
  exact ⟨by simp [isSd, h1], rfl⟩
def isPr (p : Int) : Bool := decide (0 ≤ p) && decide (p < 262144)
theorem isPrice_any (p : Int) (w : World) : Calls Try.prog 71 #[.int .i64 p] w fun e w' => e = .returned (.bool (isPr p)) ∧ w' = w := by
 by_cases h : 0 ≤ p
 ·have h1 : decide (0 ≤ p) = true := by simpa using h
  go_enter Try.func71, Try.ntmps71
  go_wp2
  go_ret
  exact ⟨by simp [isPr, h], rfl⟩
 ·have h1 : decide (0 ≤ p) = false := by simpa using h
  go_enter Try.func71, Try.ntmps71
  go_wp2
  go_ret
  exact ⟨by simp [isPr, show ¬ 0 ≤ p by omega], rfl⟩
def pkF (c : Cm) : Bool := rst c.ty && decide (c.pk ≤ c.qt) && decide (c.qt ≤ 256 * c.pk)
theorem peakFits_any (c : Cm) (w : World) (h0 : 0 ≤ c.pk) (h1 : c.qt ≤ 4294967295) : Calls Try.prog 72 #[.agg (cmr c)] w fun e w' => e = .returned (.bool (pkF c)) ∧ Below w.heap.size w w' := by
 have C := hid (fun U => rests_any c.ty U)
 unfold cmr
 obtain ⟨v, hv⟩ : ∃ v, rst c.ty = v := ⟨_, rfl⟩
 rw [hv] at C
 unfold pkF
 rw [hv]
 clear hv
 cases v with
 | false =>
  go_enter Try.func72, Try.ntmps72
  go_wp2_with (go_at_call 45; with_reducible refine (C.out _).mono ?_; rintro e w1 ⟨rfl, rfl⟩)
  go_ret
  exact ⟨by simp, ball _ _⟩
 | true =>
  by_cases h2 : c.pk ≤ c.qt
  ·have h3 : IntKind.u64.wrap (256 * c.pk) = 256 * c.pk := by rw [IntKind.wrap_u64]; omega
   go_enter Try.func72, Try.ntmps72
   go_wp2_with (go_at_call 45; with_reducible refine (C.out _).mono ?_; rintro e w1 ⟨rfl, rfl⟩)
   go_ret
   exact ⟨by simp [h2], ball _ _⟩
  ·go_enter Try.func72, Try.ntmps72
   go_wp2_with (go_at_call 45; with_reducible refine (C.out _).mono ?_; rintro e w1 ⟨rfl, rfl⟩)
   go_ret
   exact ⟨by simp [show ¬ c.pk ≤ c.qt by omega], ball _ _⟩
/-- what an order is refused for. -/
def chO (c : Cm) : Int :=
 if isSd c.sd = false then 92
 else if c.ty < 1 ∨ 5 < c.ty then 93
 else if isPr c.pr = false ∨ (c.ty = 2 ∧ c.pr ≠ 0) then 94
 else if c.qt < 1 ∨ 4294967295 < c.qt then 95
 else if c.pk ≠ 0 ∧ pkF c = false then 96
 else if c.id = 0 then 97
 else 0
theorem bcell {W w1 : World} (hb : Below W.heap.size W w1) : (∀ b o, b < W.heap.size → w1.cell? ⟨b, o, none⟩ = W.cell? ⟨b, o, none⟩) ∧ (∀ b o, b < W.heap.size → w1.frozen? ⟨b, o, none⟩ = W.frozen? ⟨b, o, none⟩) :=
 ⟨fun b o h => hb.cell (p := ⟨b, o, none⟩) h, fun b o h => hb.frozen (p := ⟨b, o, none⟩) h⟩
theorem chO_rest (c : Cm) (w : World) (hc : CmOk c) (r : Int) (hr : (if c.qt < 1 ∨ 4294967295 < c.qt then 95 else if c.pk ≠ 0 ∧ pkF c = false then 96 else if c.id = 0 then 97 else 0) = r)
  (CS : Hid (∀ U, Calls Try.prog 70 #[.int .i64 c.sd] U fun e w' => e = .returned (.bool true) ∧ w' = U)) (CP : Hid (∀ U, Calls Try.prog 71 #[.int .i64 c.pr] U fun e w' => e = .returned (.bool true) ∧ w' = U))
  (t1 : ¬ c.ty < 1) (t2 : ¬ 5 < c.ty) (t6 : (c.ty == 2) = true → (c.pr != 0) = false) : Calls Try.prog 60 #[.agg (cmr c)] w fun e w' => e = .returned (.int .i64 r) ∧ Below w.heap.size w w' := by
 have HC := hid hc
 have HR := hid hr
 clear hc hr
 by_cases q1 : c.qt < 1
 ·have := HR.out
  rw [if_pos (.inl q1)] at this
  subst this
  clear HR
  by_cases ty2 : (c.ty == 2) = true
  ·have pr0 := t6 ty2
   clear t6
   unfold cmr
   go_enter Try.func60, Try.ntmps60
   go_wp2_with (first | (go_at_call 70; with_reducible refine (CS.out _).mono ?_; rintro e w1 ⟨rfl, rfl⟩) | (go_at_call 71; with_reducible refine (CP.out _).mono ?_; rintro e w1 ⟨rfl, rfl⟩) | (go_at_call 72; with_reducible refine (CK.out _).mono ?_; rintro e w1 ⟨rfl, hb1⟩; obtain ⟨hcl, hfz⟩ := bcell hb1; have hz1 : w.heap.size < w1.heap.size := (by have := hb1.size; simp at this; omega); have HB1 := hid hb1; clear hb1))
   go_ret
   exact ⟨rfl, ball _ _⟩
  ·have ty2' : (c.ty == 2) = false := by simpa using ty2
   clear t6 ty2
   unfold cmr
   go_enter Try.func60, Try.ntmps60
   go_wp2_with (first | (go_at_call 70; with_reducible refine (CS.out _).mono ?_; rintro e w1 ⟨rfl, rfl⟩) | (go_at_call 71; with_reducible refine (CP.out _).mono ?_; rintro e w1 ⟨rfl, rfl⟩) | (go_at_call 72; with_reducible refine (CK.out _).mono ?_; rintro e w1 ⟨rfl, hb1⟩; obtain ⟨hcl, hfz⟩ := bcell hb1; have hz1 : w.heap.size < w1.heap.size := (by have := hb1.size; simp at this; omega); have HB1 := hid hb1; clear hb1))
   go_ret
   exact ⟨rfl, ball _ _⟩
 ·by_cases q2 : 4294967295 < c.qt
  ·have := HR.out
   rw [if_pos (.inr q2)] at this
   subst this
   clear HR
   by_cases ty2 : (c.ty == 2) = true
   ·have pr0 := t6 ty2
    clear t6
    unfold cmr
    go_enter Try.func60, Try.ntmps60
    go_wp2_with (first | (go_at_call 70; with_reducible refine (CS.out _).mono ?_; rintro e w1 ⟨rfl, rfl⟩) | (go_at_call 71; with_reducible refine (CP.out _).mono ?_; rintro e w1 ⟨rfl, rfl⟩) | (go_at_call 72; with_reducible refine (CK.out _).mono ?_; rintro e w1 ⟨rfl, hb1⟩; obtain ⟨hcl, hfz⟩ := bcell hb1; have hz1 : w.heap.size < w1.heap.size := (by have := hb1.size; simp at this; omega); have HB1 := hid hb1; clear hb1))
    go_ret
    exact ⟨rfl, ball _ _⟩
   ·have ty2' : (c.ty == 2) = false := by simpa using ty2
    clear t6 ty2
    unfold cmr
    go_enter Try.func60, Try.ntmps60
    go_wp2_with (first | (go_at_call 70; with_reducible refine (CS.out _).mono ?_; rintro e w1 ⟨rfl, rfl⟩) | (go_at_call 71; with_reducible refine (CP.out _).mono ?_; rintro e w1 ⟨rfl, rfl⟩) | (go_at_call 72; with_reducible refine (CK.out _).mono ?_; rintro e w1 ⟨rfl, hb1⟩; obtain ⟨hcl, hfz⟩ := bcell hb1; have hz1 : w.heap.size < w1.heap.size := (by have := hb1.size; simp at this; omega); have HB1 := hid hb1; clear hb1))
    go_ret
    exact ⟨rfl, ball _ _⟩
  ·rw [if_neg (by omega)] at HR
   have CK := hid (fun U => peakFits_any c U HC.out.pk0 (by omega))
   unfold cmr at CK
   obtain ⟨v, hv⟩ : ∃ v, pkF c = v := ⟨_, rfl⟩
   rw [hv] at CK HR
   clear hv
   obtain ⟨tv, htv⟩ : ∃ tv, (c.ty == 2) = tv := ⟨_, rfl⟩
   by_cases p0 : c.pk = 0
   ·rw [if_neg (fun h => h.1 p0)] at HR
    have p0' : (c.pk != 0) = false := by simpa using p0
    clear p0
    by_cases i0 : c.id = 0
    ·have := HR.out
     rw [if_pos i0] at this
     subst this
     have i0' : (c.id == 0) = true := by simpa using i0
     clear HR i0
     cases tv with
     | true =>
      have pr0 := t6 htv
      clear t6
      unfold cmr
      go_enter Try.func60, Try.ntmps60
      go_wp2_with (first | (go_at_call 70; with_reducible refine (CS.out _).mono ?_; rintro e w1 ⟨rfl, rfl⟩) | (go_at_call 71; with_reducible refine (CP.out _).mono ?_; rintro e w1 ⟨rfl, rfl⟩) | (go_at_call 72; with_reducible refine (CK.out _).mono ?_; rintro e w1 ⟨rfl, hb1⟩; obtain ⟨hcl, hfz⟩ := bcell hb1; have hz1 : w.heap.size < w1.heap.size := (by have := hb1.size; simp at this; omega); have HB1 := hid hb1; clear hb1))
      go_ret
      exact ⟨rfl, ball _ _⟩
     | false =>
      clear t6
      unfold cmr
      go_enter Try.func60, Try.ntmps60
      go_wp2_with (first | (go_at_call 70; with_reducible refine (CS.out _).mono ?_; rintro e w1 ⟨rfl, rfl⟩) | (go_at_call 71; with_reducible refine (CP.out _).mono ?_; rintro e w1 ⟨rfl, rfl⟩) | (go_at_call 72; with_reducible refine (CK.out _).mono ?_; rintro e w1 ⟨rfl, hb1⟩; obtain ⟨hcl, hfz⟩ := bcell hb1; have hz1 : w.heap.size < w1.heap.size := (by have := hb1.size; simp at this; omega); have HB1 := hid hb1; clear hb1))
      go_ret
      exact ⟨rfl, ball _ _⟩
    ·have := HR.out
     rw [if_neg i0] at this
     subst this
     have i0' : (c.id == 0) = false := by simpa using i0
     clear HR i0
     cases tv with
     | true =>
      have pr0 := t6 htv
      clear t6
      unfold cmr
      go_enter Try.func60, Try.ntmps60
      go_wp2_with (first | (go_at_call 70; with_reducible refine (CS.out _).mono ?_; rintro e w1 ⟨rfl, rfl⟩) | (go_at_call 71; with_reducible refine (CP.out _).mono ?_; rintro e w1 ⟨rfl, rfl⟩) | (go_at_call 72; with_reducible refine (CK.out _).mono ?_; rintro e w1 ⟨rfl, hb1⟩; obtain ⟨hcl, hfz⟩ := bcell hb1; have hz1 : w.heap.size < w1.heap.size := (by have := hb1.size; simp at this; omega); have HB1 := hid hb1; clear hb1))
      go_ret
      exact ⟨rfl, ball _ _⟩
     | false =>
      clear t6
      unfold cmr
      go_enter Try.func60, Try.ntmps60
      go_wp2_with (first | (go_at_call 70; with_reducible refine (CS.out _).mono ?_; rintro e w1 ⟨rfl, rfl⟩) | (go_at_call 71; with_reducible refine (CP.out _).mono ?_; rintro e w1 ⟨rfl, rfl⟩) | (go_at_call 72; with_reducible refine (CK.out _).mono ?_; rintro e w1 ⟨rfl, hb1⟩; obtain ⟨hcl, hfz⟩ := bcell hb1; have hz1 : w.heap.size < w1.heap.size := (by have := hb1.size; simp at this; omega); have HB1 := hid hb1; clear hb1))
      go_ret
      exact ⟨rfl, ball _ _⟩
   ·have p0' : (c.pk != 0) = true := by simpa using p0
    cases v with
    | false =>
     have := HR.out
     rw [if_pos ⟨p0, rfl⟩] at this
     subst this
     clear HR p0
     cases tv with
     | true =>
      have pr0 := t6 htv
      clear t6
      unfold cmr
      go_enter Try.func60, Try.ntmps60
      go_wp2_with (first | (go_at_call 70; with_reducible refine (CS.out _).mono ?_; rintro e w1 ⟨rfl, rfl⟩) | (go_at_call 71; with_reducible refine (CP.out _).mono ?_; rintro e w1 ⟨rfl, rfl⟩) | (go_at_call 72; with_reducible refine (CK.out _).mono ?_; rintro e w1 ⟨rfl, hb1⟩; obtain ⟨hcl, hfz⟩ := bcell hb1; have hz1 : w.heap.size < w1.heap.size := (by have := hb1.size; simp at this; omega); have HB1 := hid hb1; clear hb1))
      go_ret
      exact ⟨rfl, btr (ball _ _) HB1.out⟩
     | false =>
      clear t6
      unfold cmr
      go_enter Try.func60, Try.ntmps60
      go_wp2_with (first | (go_at_call 70; with_reducible refine (CS.out _).mono ?_; rintro e w1 ⟨rfl, rfl⟩) | (go_at_call 71; with_reducible refine (CP.out _).mono ?_; rintro e w1 ⟨rfl, rfl⟩) | (go_at_call 72; with_reducible refine (CK.out _).mono ?_; rintro e w1 ⟨rfl, hb1⟩; obtain ⟨hcl, hfz⟩ := bcell hb1; have hz1 : w.heap.size < w1.heap.size := (by have := hb1.size; simp at this; omega); have HB1 := hid hb1; clear hb1))
      go_ret
      exact ⟨rfl, btr (ball _ _) HB1.out⟩
    | true =>
     rw [if_neg (fun h => by cases h.2)] at HR
     clear p0
     by_cases i0 : c.id = 0
     ·have := HR.out
      rw [if_pos i0] at this
      subst this
      have i0' : (c.id == 0) = true := by simpa using i0
      clear HR i0
      cases tv with
      | true =>
       have pr0 := t6 htv
       clear t6
       unfold cmr
       go_enter Try.func60, Try.ntmps60
       go_wp2_with (first | (go_at_call 70; with_reducible refine (CS.out _).mono ?_; rintro e w1 ⟨rfl, rfl⟩) | (go_at_call 71; with_reducible refine (CP.out _).mono ?_; rintro e w1 ⟨rfl, rfl⟩) | (go_at_call 72; with_reducible refine (CK.out _).mono ?_; rintro e w1 ⟨rfl, hb1⟩; obtain ⟨hcl, hfz⟩ := bcell hb1; have hz1 : w.heap.size < w1.heap.size := (by have := hb1.size; simp at this; omega); have HB1 := hid hb1; clear hb1))
       go_ret
       exact ⟨rfl, btr (ball _ _) HB1.out⟩
      | false =>
       clear t6
       unfold cmr
       go_enter Try.func60, Try.ntmps60
       go_wp2_with (first | (go_at_call 70; with_reducible refine (CS.out _).mono ?_; rintro e w1 ⟨rfl, rfl⟩) | (go_at_call 71; with_reducible refine (CP.out _).mono ?_; rintro e w1 ⟨rfl, rfl⟩) | (go_at_call 72; with_reducible refine (CK.out _).mono ?_; rintro e w1 ⟨rfl, hb1⟩; obtain ⟨hcl, hfz⟩ := bcell hb1; have hz1 : w.heap.size < w1.heap.size := (by have := hb1.size; simp at this; omega); have HB1 := hid hb1; clear hb1))
       go_ret
       exact ⟨rfl, btr (ball _ _) HB1.out⟩
     ·have := HR.out
      rw [if_neg i0] at this
      subst this
      have i0' : (c.id == 0) = false := by simpa using i0
      clear HR i0
      cases tv with
      | true =>
       have pr0 := t6 htv
       clear t6
       unfold cmr
       go_enter Try.func60, Try.ntmps60
       go_wp2_with (first | (go_at_call 70; with_reducible refine (CS.out _).mono ?_; rintro e w1 ⟨rfl, rfl⟩) | (go_at_call 71; with_reducible refine (CP.out _).mono ?_; rintro e w1 ⟨rfl, rfl⟩) | (go_at_call 72; with_reducible refine (CK.out _).mono ?_; rintro e w1 ⟨rfl, hb1⟩; obtain ⟨hcl, hfz⟩ := bcell hb1; have hz1 : w.heap.size < w1.heap.size := (by have := hb1.size; simp at this; omega); have HB1 := hid hb1; clear hb1))
       go_ret
       exact ⟨rfl, btr (ball _ _) HB1.out⟩
      | false =>
       clear t6
       unfold cmr
       go_enter Try.func60, Try.ntmps60
       go_wp2_with (first | (go_at_call 70; with_reducible refine (CS.out _).mono ?_; rintro e w1 ⟨rfl, rfl⟩) | (go_at_call 71; with_reducible refine (CP.out _).mono ?_; rintro e w1 ⟨rfl, rfl⟩) | (go_at_call 72; with_reducible refine (CK.out _).mono ?_; rintro e w1 ⟨rfl, hb1⟩; obtain ⟨hcl, hfz⟩ := bcell hb1; have hz1 : w.heap.size < w1.heap.size := (by have := hb1.size; simp at this; omega); have HB1 := hid hb1; clear hb1))
       go_ret
       exact ⟨rfl, btr (ball _ _) HB1.out⟩
theorem checkOrder_any (c : Cm) (w : World) (hc : CmOk c) : Calls Try.prog 60 #[.agg (cmr c)] w fun e w' => e = .returned (.int .i64 (chO c)) ∧ Below w.heap.size w w' := by
 have CS := hid (fun U => isSide_any c.sd U)
 have CP := hid (fun U => isPrice_any c.pr U)
 obtain ⟨v1, hv1⟩ : ∃ v, isSd c.sd = v := ⟨_, rfl⟩
 obtain ⟨v2, hv2⟩ : ∃ v, isPr c.pr = v := ⟨_, rfl⟩
 rw [hv1] at CS
 rw [hv2] at CP
 have HC := hid hc
 obtain ⟨r, hr⟩ : ∃ r, chO c = r := ⟨_, rfl⟩
 have HR := hid hr
 unfold chO at HR
 rw [hv1, hv2] at HR
 rw [hr]
 clear hr hv1 hv2 hc
 cases v1 with
 | false =>
  have := HR.out
  simp only [if_true] at this
  subst this
  unfold cmr
  go_enter Try.func60, Try.ntmps60
  go_wp2_with (go_at_call 70; with_reducible refine (CS.out _).mono ?_; rintro e w1 ⟨rfl, rfl⟩)
  go_ret
  exact ⟨rfl, ball _ _⟩
 | true =>
  simp only [Bool.true_eq_false, if_false] at HR
  by_cases t1 : c.ty < 1
  ·have := HR.out
   rw [if_pos (.inl t1)] at this
   subst this
   clear HR
   unfold cmr
   go_enter Try.func60, Try.ntmps60
   go_wp2_with (first | (go_at_call 70; with_reducible refine (CS.out _).mono ?_; rintro e w1 ⟨rfl, rfl⟩) | (go_at_call 71; with_reducible refine (CP.out _).mono ?_; rintro e w1 ⟨rfl, rfl⟩) | (go_at_call 72; with_reducible refine (CK.out _).mono ?_; rintro e w1 ⟨rfl, hb1⟩; obtain ⟨hcl, hfz⟩ := bcell hb1; have hz1 : w.heap.size < w1.heap.size := (by have := hb1.size; simp at this; omega); have HB1 := hid hb1; clear hb1))
   go_ret
   exact ⟨rfl, ball _ _⟩
  ·by_cases t2 : 5 < c.ty
   ·have := HR.out
    rw [if_pos (.inr t2)] at this
    subst this
    clear HR
    unfold cmr
    go_enter Try.func60, Try.ntmps60
    go_wp2_with (first | (go_at_call 70; with_reducible refine (CS.out _).mono ?_; rintro e w1 ⟨rfl, rfl⟩) | (go_at_call 71; with_reducible refine (CP.out _).mono ?_; rintro e w1 ⟨rfl, rfl⟩) | (go_at_call 72; with_reducible refine (CK.out _).mono ?_; rintro e w1 ⟨rfl, hb1⟩; obtain ⟨hcl, hfz⟩ := bcell hb1; have hz1 : w.heap.size < w1.heap.size := (by have := hb1.size; simp at this; omega); have HB1 := hid hb1; clear hb1))
    go_ret
    exact ⟨rfl, ball _ _⟩
   ·rw [if_neg (by omega)] at HR
    cases v2 with
    | false =>
     have := HR.out
     rw [if_pos (.inl rfl)] at this
     subst this
     clear HR
     unfold cmr
     go_enter Try.func60, Try.ntmps60
     go_wp2_with (first | (go_at_call 70; with_reducible refine (CS.out _).mono ?_; rintro e w1 ⟨rfl, rfl⟩) | (go_at_call 71; with_reducible refine (CP.out _).mono ?_; rintro e w1 ⟨rfl, rfl⟩) | (go_at_call 72; with_reducible refine (CK.out _).mono ?_; rintro e w1 ⟨rfl, hb1⟩; obtain ⟨hcl, hfz⟩ := bcell hb1; have hz1 : w.heap.size < w1.heap.size := (by have := hb1.size; simp at this; omega); have HB1 := hid hb1; clear hb1))
     go_ret
     exact ⟨rfl, ball _ _⟩
    | true =>
     by_cases t3 : c.ty = 2 ∧ c.pr ≠ 0
     ·have := HR.out
      rw [if_pos (.inr t3)] at this
      subst this
      clear HR
      obtain ⟨t4, t5⟩ := t3
      have t4' : (c.ty == 2) = true := by simpa using t4
      have t5' : (c.pr != 0) = true := by simpa using t5
      clear t4 t5
      unfold cmr
      go_enter Try.func60, Try.ntmps60
      go_wp2_with (first | (go_at_call 70; with_reducible refine (CS.out _).mono ?_; rintro e w1 ⟨rfl, rfl⟩) | (go_at_call 71; with_reducible refine (CP.out _).mono ?_; rintro e w1 ⟨rfl, rfl⟩) | (go_at_call 72; with_reducible refine (CK.out _).mono ?_; rintro e w1 ⟨rfl, hb1⟩; obtain ⟨hcl, hfz⟩ := bcell hb1; have hz1 : w.heap.size < w1.heap.size := (by have := hb1.size; simp at this; omega); have HB1 := hid hb1; clear hb1))
      go_ret
      exact ⟨rfl, ball _ _⟩
     ·rw [if_neg (by rintro (h | h); cases h; exact t3 h)] at HR
      have t6 : (c.ty == 2) = true → (c.pr != 0) = false := by
       intro h
       have h1 : c.ty = 2 := by simpa using h
       have h2 : c.pr = 0 := by
        by_cases h2 : c.pr = 0
        ·exact h2
        ·exact absurd ⟨h1, h2⟩ t3
       simp [h2]
      clear t3
      refine chO_rest c w HC.out r HR.out CS CP (by omega) (by omega) t6
end
section
open Go.RowKit Go.Deep Go.Shelf
set_option linter.unusedVariables false
set_option linter.unusedSimpArgs false
set_option maxHeartbeats 4000000
set_option maxRecDepth 100000
/-- what a command is refused for by itself. -/
def chk (c : Cm) : Int := if c.kd = 1 then chO c else if c.kd = 3 then chO { c with sd := 1, ty := 1 } else if c.kd = 2 then 0 else 90
theorem check_any (c : Cm) (w : World) (hc : CmOk c) : Calls Try.prog 43 #[.agg (cmr c)] w fun e w' => e = .returned (.int .i64 (chk c)) ∧ Below w.heap.size w w' := by
 have C1 := hid (fun U => checkOrder_any c U hc)
 have C2 := hid (fun U => checkOrder_any { c with sd := 1, ty := 1 } U ⟨hc.id0, hc.id1, hc.mb0, hc.mb1, hc.qt0, hc.qt1, hc.pk0, hc.pk1⟩)
 unfold cmr at C1 C2
 simp only at C2
 clear hc
 by_cases k1 : c.kd = 1
 ·have hr : chk c = chO c := by simp [chk, k1]
  rw [hr]
  have k1' : (c.kd == 1) = true := by simpa using k1
  clear k1 hr
  unfold cmr
  go_enter Try.func43, Try.ntmps43
  go_wp2_with (go_at_call 60; with_reducible refine (C1.out _).mono ?_; rintro e w1 ⟨rfl, hb1⟩)
  go_ret
  exact ⟨rfl, btr (ball _ _) hb1⟩
 ·have k1' : (c.kd == 1) = false := by simpa using k1
  by_cases k3 : c.kd = 3
  ·have hr : chk c = chO { c with sd := 1, ty := 1 } := by simp [chk, k3]
   rw [hr]
   have k3' : (c.kd == 3) = true := by simpa using k3
   clear k1 k3 hr
   unfold cmr
   go_enter Try.func43, Try.ntmps43
   go_wp2_with (go_at_call 60; with_reducible refine (C2.out _).mono ?_; rintro e w1 ⟨rfl, hb1⟩)
   go_ret
   exact ⟨rfl, btr (ball _ _) hb1⟩
  ·have k3' : (c.kd == 3) = false := by simpa using k3
   by_cases k2 : c.kd = 2
   ·have hr : chk c = 0 := by simp [chk, k2]
    rw [hr]
    have k2' : (c.kd == 2) = true := by simpa using k2
    clear k1 k3 k2 hr
    unfold cmr
    go_enter Try.func43, Try.ntmps43
    go_wp2
    go_ret
    exact ⟨rfl, ball _ _⟩
   ·have hr : chk c = 90 := by simp [chk, k1, k2, k3]
    rw [hr]
    have k2' : (c.kd == 2) = false := by simpa using k2
    clear k1 k3 k2 hr
    unfold cmr
    go_enter Try.func43, Try.ntmps43
    go_wp2
    go_ret
    exact ⟨rfl, ball _ _⟩
/-- the command, a Replace of the kind of the order it replaces. -/
def cmN (b : Bs) (c : Cm) : Cm := if c.kd = 3 then { c with mb := (fo b c.tg).1.mb, sd := (fo b c.tg).2.1, ty := (fo b c.tg).1.ty } else c
def ord (c : Cm) : Or := ⟨c.id, c.mb, c.ty, c.pr, 0, 0, c.pk⟩
theorem info70 : (Try.prog.info? 70).map (·.size) = some 9 := by kernel_rfl
theorem crow_info (o : Or) (s q : Int) : (Try.prog.info? 70).map (·.size) = some (crow o s q).size := info70
theorem crow_all (o : Or) (s q : Int) : (crow o s q).all (·.oneCell') = true := by simp [crow, Value.oneCell']
theorem crow_size (o y : Or) (s q t r : Int) : (crow o s q).size = (crow y t r).size := rfl
theorem order_any (B : Nat) (b : Bs) (c : Cm) (w : World) (h : Bm w B b) (hn : b.l1.length + b.l2.length ≤ 1048576) :
  Calls Try.prog 27 #[.pointer (some ⟨B, 0, none⟩), .agg (cmr c)] w fun e w' => e = .returned (.agg (crow (ord (cmN b c)) (cmN b c).sd c.qt)) ∧ Below w.heap.size w w' := by
 by_cases k3 : c.kd = 3
 ·obtain ⟨o, s, v, hf⟩ : ∃ o s v, fo b c.tg = (o, s, v) := ⟨_, _, _, rfl⟩
  have e1 : cmN b c = { c with mb := o.mb, sd := s, ty := o.ty } := by simp [cmN, k3, hf]
  rw [e1]
  have k3' : (c.kd == 3) = true := by simpa using k3
  obtain ⟨W, hW⟩ : ∃ W, (w.alloc (.cells (cmr c) 39)).alloc (.cells (crow oz 0 0) 70) = W := ⟨_, rfl⟩
  have hbW : Below w.heap.size w W := by rw [← hW]; exact btr (ball _ _) (ball _ _)
  have hR : W.heap[w.heap.size]? = some (.cells (cmr c) 39 (0, 0)) := by
   rw [← hW, Below.heap_alloc _ _ _ (by simp)]; exact World.alloc_heap_new _ _
  have hZ : W.heap[w.heap.size + 1]? = some (.cells (crow oz 0 0) 70 (0, 0)) := by
   rw [← hW]
   have := World.alloc_heap_new (w.alloc (.cells (cmr c) 39)) (.cells (crow oz 0 0) 70)
   simpa using this
  have C := hid (findB_any B b c.tg W (h.on hbW) hn)
  rw [hf] at C
  simp only at C
  have r0 := row_cell hR 0
  have r2 := row_cell hR 2
  simp only [cmr, List.getElem?_toArray, List.getElem?_cons_succ, List.getElem?_cons_zero] at r0 r2
  have HW := hid hW
  have HBW := hid hbW
  have HR := hid hR
  have HZ := hid hZ
  clear k3 h hf e1 hW hbW hR hZ
  unfold orow at C
  unfold cmr
  go_enter Try.func27, Try.ntmps27
  go_upto_region 1 with fail
  have e0 := HW.out
  simp only [cmr, crow, oz] at e0
  rw [e0]
  clear e0
  go_upto_region 3 with (go_at_call 15; with_reducible refine (C.out).mono ?_; rintro e w1 ⟨rfl, hb1⟩; have HB1 := hid hb1; clear hb1)
  obtain ⟨W1, hW1⟩ : ∃ W1, w1.alloc (.cells #[.int .u64 o.id, .int .u32 o.mb, .int .i64 o.ty, .int .i64 o.pr, .int .u64 o.vi, .int .u64 o.hi, .int .u64 o.pk] 50) = W1 := ⟨_, rfl⟩
  have HW1 := hid (show Below W.heap.size W W1 from by rw [← hW1]; exact btr HB1.out (ball _ _))
  have HR1 := hid (show W1.heap[w1.heap.size]? = some (.cells #[.int .u64 o.id, .int .u32 o.mb, .int .i64 o.ty, .int .i64 o.pr, .int .u64 o.vi, .int .u64 o.hi, .int .u64 o.pk] 50 (0, 0)) from by rw [← hW1]; exact World.alloc_heap_new _ _)
  rw [hW1]
  clear hW1 r0 r2
  have o1 := row_cell HR1.out 1
  have o2 := row_cell HR1.out 2
  have hR1 := row_on HR.out HW1.out
  have hZ1 := row_on HZ.out HW1.out
  have q3 := row_cell hR1 3
  have q4 := row_cell hR1 4
  have q5 := row_cell hR1 5
  have f3 := row_frz hR1 3
  have f4 := row_frz hR1 4
  have f5 := row_frz hR1 5
  have nO : w.heap.size ≠ w1.heap.size := by have := row_lt HR.out; have := HB1.out.size; omega
  have HR2 := hid hR1
  have HZ2 := hid hZ1
  simp only [cmr, crow, oz, List.getElem?_toArray, List.getElem?_cons_succ, List.getElem?_cons_zero] at o1 o2 q3 q4 q5
  clear hR1 hZ1
  go_region
  obtain ⟨W2, hW2⟩ : ∃ W2, (((W1.setCell ⟨w.heap.size, 3, none⟩ (.int .u32 o.mb)).setCell ⟨w.heap.size, 4, none⟩ (.int .i64 s)).setCell ⟨w.heap.size, 5, none⟩ (.int .i64 o.ty)).drew = W2 := ⟨_, rfl⟩
  have hR3 : W2.heap[w.heap.size]? = some (.cells (cmr { c with mb := o.mb, sd := s, ty := o.ty }) 39 (0, 0)) := by
   rw [← hW2]
   show (((W1.setCell ⟨w.heap.size, 3, none⟩ (.int .u32 o.mb)).setCell ⟨w.heap.size, 4, none⟩ (.int .i64 s)).setCell ⟨w.heap.size, 5, none⟩ (.int .i64 o.ty)).heap[w.heap.size]? = _
   rw [set_row _ (set_row _ (set_row _ HR2.out))]
   rfl
  have k2 : Kp (fun j => j = w.heap.size) W1 W2 := by
   rw [← hW2]
   exact (((Kp.set W1 _ 3 _).trans (Kp.set _ _ 4 _) (fun _ _ h => h)).trans (Kp.set _ _ 5 _) (fun _ _ h => h)).trans (Kp.of (fun j => j = w.heap.size) (bdrew1 _)) (fun _ _ h => h)
  have hZ3 := k2.row HZ2.out (fun e => by omega)
  have HB2 := hid (show Below w.heap.size w W2 from (btr HBW.out HW1.out).trans (k2.below (btr HBW.out HW1.out).size (fun b hb e => by omega)))
  rw [hW2]
  clear hW2 k2 q3 q4 q5 f3 f4 f5 o1 o2
  have q1 := row_cell hR3 1
  have q3 := row_cell hR3 3
  have q4 := row_cell hR3 4
  have q5 := row_cell hR3 5
  have q6 := row_cell hR3 6
  have q7 := row_cell hR3 7
  have q8 := row_cell hR3 8
  have sR := row_lt hR3
  have nR : w.heap.size ≠ W2.heap.size := by omega
  simp only [cmr, List.getElem?_toArray, List.getElem?_cons_succ, List.getElem?_cons_zero] at q1 q3 q4 q5 q6 q7 q8
  have HZ3 := hid hZ3
  clear hR3 hZ3
  have HZA := hid (fun ob => (show (W2.alloc ob).heap[w.heap.size + 1]? = some (.cells (crow oz 0 0) 70 (0, 0)) from row_on HZ3.out (ball _ _)))
  have ae : crow (ord { c with mb := o.mb, sd := s, ty := o.ty }) s c.qt = #[.int .u64 c.id, .int .u32 o.mb, .int .i64 o.ty, .int .i64 c.pr, .int .u64 0, .int .u64 0, .int .u64 c.pk, .int .i64 s, .int .u64 c.qt] := rfl
  have AE := hid ae
  have AI := hid (crow_info (ord { c with mb := o.mb, sd := s, ty := o.ty }) s c.qt)
  have AS := hid (crow_size oz (ord { c with mb := o.mb, sd := s, ty := o.ty }) 0 0 s c.qt)
  have AA := hid (crow_all (ord { c with mb := o.mb, sd := s, ty := o.ty }) s c.qt)
  rw [ae] at AI AS AA
  clear ae
  go_wp2_with (refine wpList_store_row (by rfl) 70 (.tmp 4) (.tmp 44) (by rfl) (w.heap.size + 1) #[.int .u64 c.id, .int .u32 o.mb, .int .i64 o.ty, .int .i64 c.pr, .int .u64 0, .int .u64 0, .int .u64 c.pk, .int .i64 s, .int .u64 c.qt] (by rfl) (by rfl) 70 (crow oz 0 0) (HZA.out _) AI.out AS.out AA.out ?_)
  refine bodyPost_ret (results_cell_row (fn := Try.f27) Try.results27 _ _ (w.heap.size + 1) 70 _ (0, 0) _ (by rfl) (setRow_heap _ _ _ _ 70 (0, 0) (HZA.out _)) Try.underlying70 rfl AI.out) rfl ⟨rfl, ?_⟩
  exact (btr HB2.out (ball W2 _)).trans ((setRow_kp _ _ _).below (btr HB2.out (ball W2 _)).size (fun b hb e => by omega))
 ·have e1 : cmN b c = c := by simp [cmN, k3]
  rw [e1]
  have k3' : (c.kd == 3) = false := by simpa using k3
  clear k3 h
  unfold cmr
  go_enter Try.func27, Try.ntmps27
  go_wp2
  exact bodyPost_ret (v := .agg (crow (ord c) c.sd c.qt)) (by simp [results, Try.results27, go_sem, crow, ord]) rfl ⟨rfl, by repeat (first | exact Below.refl _ _ | refine Below.setCell ?_ (by simp; try omega) _ | refine Below.alloc ?_ (by simp; try omega) _)⟩
end
end Go.Proofs.Ytalgndgoedlpoaa
