/-
  Events, plain.
-/
import Derived.Test.YtnhipamajelalaaMvI
import Derived.Test.YtnhipamajelalaaMgK
namespace Go.Proofs.Ytnhipamajelalaa
open Go.RowKit Go.Maps Go.Deep Go.Lib
set_option linter.unusedVariables false
set_option linter.unusedSimpArgs false

structure Evt.Rg (x : Evt) : Prop where
  si : -9223372036854775808 ≤ x.si ∧ x.si < 9223372036854775808
  ty : -9223372036854775808 ≤ x.ty ∧ x.ty < 9223372036854775808
  pr : -9223372036854775808 ≤ x.pr ∧ x.pr < 9223372036854775808
  re : -9223372036854775808 ≤ x.re ∧ x.re < 9223372036854775808
  co : -9223372036854775808 ≤ x.co ∧ x.co < 9223372036854775808
theorem goodE_eq (x : Evt) (hx : x.Ok) (hr : x.Rg) (t : Int) (ht : EvTag t) : goodE x t = decide (x.f t ≤ bnd t) := by
  obtain ⟨⟨y1, y2⟩, ⟨a1, a2⟩, ⟨o1, o2⟩, ⟨b1, b2⟩, ⟨c1, c2⟩, ⟨d1, d2⟩, ⟨e1, e2⟩⟩ := hx
  obtain ⟨⟨s1, s2⟩, ⟨t1, t2⟩, ⟨p1, p2⟩, ⟨r1, r2⟩, ⟨n1, n2⟩⟩ := hr
  rcases ht with rfl | rfl | rfl | rfl | rfl | rfl | rfl | rfl | rfl | rfl | rfl | rfl
  all_goals simp [goodE, Evt.okV, most, bnd, Evt.f, evF, upd, u64]
  all_goals omega
theorem allE_eq (x : Evt) (hx : x.Ok) (hr : x.Rg) (k : Int) (h1 : 1 ≤ k) (h5 : k ≤ 5) : (tagsL (64 + k)).all (goodE x) = inB (tagsL (64 + k)) x.f := by
  unfold inB
  have h : ∀ t ∈ tagsL (64 + k), goodE x t = decide (x.f t ≤ bnd t) := fun t ht => goodE_eq x hx hr t (ev_tag h1 h5 ht)
  generalize tagsL (64 + k) = L at h
  induction L with
  | nil => rfl
  | cons a L ih =>
    rw [List.all_cons, List.all_cons, h a (by simp), ih (fun t ht => h t (by simp [ht]))]
theorem vlE_iff (y x : Evt) : y.v = x.v ↔ y.l = x.l := by
  unfold Evt.v eV Evt.l
  simp
def agnG (f : Int → Int) (kd : Int) (L : List Int) : Evt := L.foldl (fun y t => y.set t (f t)) (bareE kd)
theorem agnG_l (f : Int → Int) (kd : Int) (h1 : 1 ≤ kd) (h5 : kd ≤ 5) : (agnG f kd (tagsL (64 + kd))).l = evL (64 + kd) (only (tagsL (64 + kd)) f) := by
  obtain rfl | rfl | rfl | rfl | rfl : kd = 1 ∨ kd = 2 ∨ kd = 3 ∨ kd = 4 ∨ kd = 5 := by omega
  all_goals simp [agnG, tagsL, bareE, Evt.set, evL, only, Evt.l]
  all_goals simp [u32, s64, wrap64]
theorem toldE_iff (x : Evt) (hx : x.Ok) (hr : x.Rg) (h1 : 1 ≤ x.kd) (h5 : x.kd ≤ 5) : ((tagsL x.k).all (goodE x) = true ∧ (agnE x (tagsL x.k)).v = x.v) ↔ x.told = true := by
  have hk : x.k = 64 + x.kd := by unfold Evt.k; rw [if_pos ⟨h1, h5⟩]
  have e : (agnE x (tagsL x.k)).l = evL x.k (only (tagsL x.k) x.f) := by
    rw [hk]
    exact agnG_l x.f x.kd h1 h5
  have e2 : (tagsL x.k).all (goodE x) = inB (tagsL x.k) x.f := by rw [hk]; exact allE_eq x hx hr x.kd h1 h5
  rw [e2, vlE_iff, e]
  unfold Evt.told Evt.F
  simp
theorem packE_words (x : Evt) (hx : x.Ok) (h : x.e = 0) : frW x.k x.F (tagsL x.k) = laW x.k x.f (tagsL x.k) := by
  obtain ⟨h0, ht⟩ := eE_zero x h
  obtain ⟨h1, h5, hk⟩ := kE_cases x h0
  unfold Evt.told at ht
  simp only [Bool.and_eq_true] at ht
  refine fr_la x.k (by unfold Knd; omega) x.f (fun t ht2 => ⟨?_, ?_⟩)
  · obtain ⟨⟨y1, y2⟩, ⟨a1, a2⟩, ⟨o1, o2⟩, ⟨b1, b2⟩, ⟨c1, c2⟩, ⟨d1, d2⟩, ⟨e1, e2⟩⟩ := hx
    rw [hk] at ht2
    rcases ev_tag h1 h5 ht2 with rfl | rfl | rfl | rfl | rfl | rfl | rfl | rfl | rfl | rfl | rfl | rfl
    all_goals simp [Evt.f, evF, upd, u64]
    all_goals omega
  · have := List.all_eq_true.1 ht.1 t ht2
    simpa using this
theorem valuesE_zero (x : Evt) (w : World) (h : ¬ (1 ≤ x.kd ∧ x.kd ≤ 5)) : Calls Try.prog 27 #[.agg x.v] w fun e w' => e = .returned (.tuple #[.slice none 0 0, .int .i64 41]) ∧ Below w.heap.size w w' := by
  have NA := hid (fun w => told_no x.kd h w)
  clear h
  unfold Evt.v eV at *
  go_enter Try.func27, Try.ntmps27
  go_wp2_with (first | (go_at_call 28; refine (NA.out _).mono ?_; rintro e w2 ⟨rfl, hb⟩; have HB2 := hid hb; clear hb; refine Hid.out ?_))
  refine hid ?_
  go_wp2
  go_ret2
  exact ⟨rfl, btr (ball _ _) HB2.out⟩
theorem valuesE_bad (x : Evt) (hx : x.Ok) (hr : x.Rg) (w : World) (h : ¬ x.e = 0) : Calls Try.prog 27 #[.agg x.v] w fun e w' => e = .returned (.tuple #[.slice none 0 0, .int .i64 x.e]) ∧ Below w.heap.size w w' := by
  by_cases h0 : x.k = 0
  · have : x.e = 41 := by unfold Evt.e; rw [if_pos h0]
    rw [this]
    refine valuesE_zero x w (fun hh => ?_)
    unfold Evt.k at h0
    rw [if_pos hh] at h0
    omega
  · obtain ⟨h1, h5, hk⟩ := kE_cases x h0
    have ht : x.told = false := by
      cases ht : x.told
      · rfl
      · exfalso; apply h; unfold Evt.e; rw [if_neg h0, ht]; rfl
    have he : x.e = 40 := by unfold Evt.e; rw [if_neg h0, ht]; rfl
    rw [he]
    refine (valuesE_any x hx w h1 h5).mono ?_
    rintro e w' ⟨hb, ⟨_, rfl⟩ | ⟨hy, _⟩⟩
    · exact ⟨rfl, hb⟩
    · rw [toldE_iff x hx hr h1 h5, ht] at hy; cases hy
theorem valuesE_ok (x : Evt) (hx : x.Ok) (hr : x.Rg) (w : World) (h : x.e = 0) : Calls Try.prog 27 #[.agg x.v] w fun e w' => ∃ p cp, e = .returned (.tuple #[.slice p (tagsL x.k).length cp, .int .i64 0]) ∧ Su w' p ((tagsL x.k).map x.f) ∧ Below w.heap.size w w' := by
  obtain ⟨h0, ht⟩ := eE_zero x h
  obtain ⟨h1, h5, hk⟩ := kE_cases x h0
  refine (valuesE_any x hx w h1 h5).mono ?_
  rintro e w' ⟨hb, ⟨hn, _⟩ | ⟨_, p, cp, rfl, hs⟩⟩
  · exact absurd ((toldE_iff x hx hr h1 h5).2 ht) hn
  · exact ⟨p, cp, rfl, hs, hb⟩
end Go.Proofs.Ytnhipamajelalaa
