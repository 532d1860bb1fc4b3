/-
  Inputs, plain; the document's Pack.
-/
import Derived.Test.YtnhipamajelalaaMgI
import Derived.Test.YtnhipamajelalaaMgP
namespace Go.Proofs.Ytnhipamajelalaa
open Go.RowKit Go.Maps Go.Deep Go.Lib
set_option linter.unusedVariables false
set_option linter.unusedSimpArgs false

structure Inp.Rg (x : Inp) : Prop where
  si : -9223372036854775808 ≤ x.si ∧ x.si < 9223372036854775808
  ty : -9223372036854775808 ≤ x.ty ∧ x.ty < 9223372036854775808
  pr : -9223372036854775808 ≤ x.pr ∧ x.pr < 9223372036854775808
  en : -9223372036854775808 ≤ x.en ∧ x.en < 9223372036854775808
theorem good_eq (x : Inp) (hx : x.Ok) (hr : x.Rg) (t : Int) (ht : InTag t) : good x t = decide (x.f t ≤ bnd t) := by
  obtain ⟨⟨a1, a2⟩, ⟨b1, b2⟩, ⟨c1, c2⟩, ⟨d1, d2⟩, ⟨e1, e2⟩⟩ := hx
  obtain ⟨⟨s1, s2⟩, ⟨t1, t2⟩, ⟨p1, p2⟩, ⟨n1, n2⟩⟩ := hr
  rcases ht with rfl | rfl | rfl | rfl | rfl | rfl | rfl | rfl | rfl
  all_goals simp [good, Inp.okV, most, bnd, Inp.f, inF, upd, u64]
  all_goals omega
theorem all_eq (x : Inp) (hx : x.Ok) (hr : x.Rg) (k : Int) (h1 : 1 ≤ k) (h4 : k ≤ 4) : (tagsL k).all (good x) = inB (tagsL k) x.f := by
  unfold inB
  have h : ∀ t ∈ tagsL k, good x t = decide (x.f t ≤ bnd t) := fun t ht => good_eq x hx hr t (in_tag h1 h4 ht)
  generalize tagsL k = L at h
  induction L with
  | nil => rfl
  | cons a L ih =>
    rw [List.all_cons, List.all_cons, h a (by simp), ih (fun t ht => h t (by simp [ht]))]
theorem vl_iff (y x : Inp) : y.v = x.v ↔ y.l = x.l := by
  unfold Inp.v iV Inp.l
  simp
theorem agn_l (x : Inp) (k : Int) (h1 : 1 ≤ k) (h4 : k ≤ 4) : (agn x k (tagsL k)).l = iL k (only (tagsL k) x.f) := by
  obtain rfl | rfl | rfl | rfl : k = 1 ∨ k = 2 ∨ k = 3 ∨ k = 4 := by omega
  all_goals simp [agn, tagsL, bareI, Inp.set, iL, only, Inp.l]
  all_goals simp [u32, s64, wrap64]
theorem told_iff (x : Inp) (hx : x.Ok) (hr : x.Rg) (h1 : 1 ≤ x.k) (h4 : x.k ≤ 4) : ((tagsL x.k).all (good x) = true ∧ (agn x x.k (tagsL x.k)).v = x.v) ↔ x.told = true := by
  rw [all_eq x hx hr x.k h1 h4, vl_iff, agn_l x x.k h1 h4]
  unfold Inp.told Inp.F
  simp
theorem list7 {l : List Int} (h : l.length = 7) : ∃ a0 a1 a2 a3 a4 a5 a6, l = [a0, a1, a2, a3, a4, a5, a6] := by
  match l, h with
  | [a0, a1, a2, a3, a4, a5, a6], _ => exact ⟨a0, a1, a2, a3, a4, a5, a6, rfl⟩
theorem k_range (x : Inp) (h : ¬ x.k = 0) : 1 ≤ x.k ∧ x.k ≤ 4 := by
  rcases k_cases x h with ⟨_, e⟩ | ⟨_, a, b, e⟩ <;> omega
theorem pack_words (x : Inp) (hx : x.Ok) (h : x.e = 0) : frW x.k x.F (tagsL x.k) = laW x.k x.f (tagsL x.k) := by
  obtain ⟨h0, ht⟩ := e_zero x h
  obtain ⟨h1, h4⟩ := k_range x h0
  unfold Inp.told at ht
  simp only [Bool.and_eq_true] at ht
  refine fr_la x.k (by unfold Knd; omega) x.f (fun t ht2 => ⟨?_, ?_⟩)
  · obtain ⟨⟨a1, a2⟩, ⟨b1, b2⟩, ⟨c1, c2⟩, ⟨d1, d2⟩, ⟨e1, e2⟩⟩ := hx
    rcases in_tag h1 h4 ht2 with rfl | rfl | rfl | rfl | rfl | rfl | rfl | rfl | rfl
    all_goals simp [Inp.f, inF, upd, u64]
    all_goals omega
  · have := List.all_eq_true.1 ht.1 t ht2
    simpa using this
end Go.Proofs.Ytnhipamajelalaa
