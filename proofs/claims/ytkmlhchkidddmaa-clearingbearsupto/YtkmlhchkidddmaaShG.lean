/-
  The document's Share, plainly: who has the greatest rest, time and again, is who stands first in order.
-/
import Derived.Test.YtkmlhchkidddmaaShD
namespace Go.Proofs.Ytkmlhchkidddmaa.Ss
set_option linter.unusedVariables false
set_option linter.unusedSimpArgs false
/-- the rests, those that were picked taken out. -/
structure Pk (rs pl R : List Int) (t : Nat) : Prop where
  len : R.length = rs.length
  at_ : ∀ i, i < rs.length → gd R i = if (i : Int) ∈ pl.take t then 0 else gd rs i
theorem Pk.start (rs pl : List Int) : Pk rs pl rs 0 := ⟨rfl, fun i hi => by rw [if_neg (by simp)]⟩
/-- the first of the greatest up to k. -/
structure Bs (R : List Int) (k b : Nat) : Prop where
  lt : b < k
  le : ∀ i, i < k → gd R i ≤ gd R b
  fi : ∀ i, i < b → gd R i < gd R b
theorem Bs.start (R : List Int) : Bs R 1 0 := ⟨by omega, fun i hi => by rw [show i = 0 by omega]; exact Int.le_refl _, fun i hi => by omega⟩
theorem Bs.up {R : List Int} {k b : Nat} (h : Bs R k b) (hg : gd R b < gd R k) : Bs R (k + 1) k :=
  ⟨by omega, fun i hi => by
    by_cases c : i = k
    · rw [c]; exact Int.le_refl _
    · have := h.le i (by omega); omega, fun i hi => by have := h.le i hi; omega⟩
theorem Bs.stay {R : List Int} {k b : Nat} (h : Bs R k b) (hg : ¬ gd R b < gd R k) : Bs R (k + 1) b :=
  ⟨by have := h.lt; omega, fun i hi => by
    by_cases c : i = k
    · rw [c]; omega
    · exact h.le i (by omega), h.fi⟩
theorem Pk.best {rs pl R : List Int} {t b : Nat} (h : Pk rs pl R t) (ho : Ord rs pl) (h0 : ∀ q ∈ rs, 0 ≤ q) (ht : t < (rs.filter fun q => decide (0 < q)).length) (hb : Bs R rs.length b) : gd pl t = (b : Int) := by
  have hle : (rs.filter fun q => decide (0 < q)).length ≤ rs.length := List.length_filter_le _ _
  obtain ⟨p, hp, e⟩ := ho.at_ (s := t) (by omega)
  have hpos := ho.pos h0 ht
  rw [e] at hpos
  have hf := ho.fresh (t := t) (by omega)
  rw [e] at hf
  have hrr : ∀ i : Nat, rr rs (i : Int) = gd rs i := fun i => by unfold rr; rw [Int.toNat_natCast]
  rw [hrr] at hpos
  have hRp : gd R p = gd rs p := by rw [h.at_ p hp, if_neg hf]
  have key : ∀ i, i < rs.length → i ≠ p → gd R i < gd R p ∨ gd R i = gd R p ∧ p < i := fun i hi hne => by
    rw [hRp, h.at_ i hi]
    by_cases c : (i : Int) ∈ pl.take t
    · rw [if_pos c]; exact .inl hpos
    · rw [if_neg c]
      have him : (i : Int) ∈ pl := ho.pm.mem_iff.2 (mem_pls.2 ⟨i, hi, rfl⟩)
      obtain ⟨u, hu, e2⟩ := List.getElem_of_mem him
      rw [← gd_get hu] at e2
      have hu2 : ¬ u < t := fun h9 => c (mem_take.2 ⟨u, h9, hu, e2⟩)
      have hu3 : u ≠ t := fun h9 => by rw [h9, e] at e2; omega
      have := ho.so t u (Nat.zero_le _) (by omega) (by rw [← ho.len]; exact hu)
      rw [e, e2] at this
      unfold lt at this
      rw [hrr, hrr] at this
      omega
  by_cases c : b = p
  · rw [e, c]
  · have h1 := key b hb.lt c
    have h2 := hb.le p hp
    rcases h1 with h1 | ⟨h1, h3⟩
    · omega
    · have := hb.fi p h3
      omega
theorem Pk.next {rs pl R : List Int} {t b : Nat} (h : Pk rs pl R t) (ht : t < pl.length) (hb : b < rs.length) (e : gd pl t = (b : Int)) : Pk rs pl (R.set b 0) (t + 1) := by
  refine ⟨by rw [List.length_set]; exact h.len, fun i hi => ?_⟩
  rw [gd_set (by rw [h.len]; exact hb)]
  by_cases c : i = b
  · rw [if_pos c, if_pos (mem_take.2 ⟨t, by omega, ht, by rw [e, c]⟩)]
  · rw [if_neg c, h.at_ i hi]
    by_cases c2 : (i : Int) ∈ pl.take t
    · rw [if_pos c2, if_pos (by
        obtain ⟨s, s1, s2, s3⟩ := mem_take.1 c2
        exact mem_take.2 ⟨s, by omega, s2, s3⟩)]
    · rw [if_neg c2, if_neg (fun h9 => by
        obtain ⟨s, s1, s2, s3⟩ := mem_take.1 h9
        by_cases c3 : s = t
        · rw [c3, e] at s3; omega
        · exact c2 (mem_take.2 ⟨s, by omega, s2, s3⟩))]
end Go.Proofs.Ytkmlhchkidddmaa.Ss
