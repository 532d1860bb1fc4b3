/-
  A place written, a count written.
-/
import Derived.Test.YthidnipmkffilaaIxC
namespace Go.Proofs.Ythidnipmkffilaa
open Go.RowKit Go.Deep
set_option linter.unusedVariables false
set_option linter.unusedSimpArgs false
theorem Kp.setCell {B : Nat → Prop} {w : World} {g : Nat} (hB : B g) (j : Nat) (v : Value) : Kp B w (w.setCell ⟨g, j, none⟩ v) :=
  ⟨rfl, rfl, rfl, by simp, fun b hb hn => heap_setCell_other _ _ _ _ (by show b ≠ g; intro e; subst e; exact hn hB)⟩
/-- three cells written. -/
abbrev w3 (w : World) (P i : Nat) (a b c : Value) : World := ((w.setCell ⟨P, i * 3, none⟩ a).setCell ⟨P, i * 3 + 1, none⟩ b).setCell ⟨P, i * 3 + 2, none⟩ c
theorem w3_heap {w : World} {P i : Nat} {cs : Array Value} {t : TypeId} (h : w.heap[P]? = some (.cells cs t (0, 0))) (a b c : Value) :
    (w3 w P i a b c).heap[P]? = some (.cells (((cs.setIfInBounds (i * 3) a).setIfInBounds (i * 3 + 1) b).setIfInBounds (i * 3 + 2) c) t (0, 0)) :=
  heap_setCell_same _ _ _ _ _ _ (heap_setCell_same _ _ _ _ _ _ (heap_setCell_same _ _ _ _ _ _ h))
theorem Kp.w3 {B : Nat → Prop} {w : World} {P : Nat} (hB : B P) (i : Nat) (a b c : Value) : Kp B w (w3 w P i a b c) :=
  ((Kp.setCell hB _ _).trans (Kp.setCell hB _ _)).trans (Kp.setCell hB _ _)
theorem Pl.set {w : World} {P n : Nat} {T : Ix.Tab} (h : Pl w P n T) {i : Nat} (hi : i < n) (x : Option (Int × Int)) : Pl (w3 w P i (.bool (eU x)) (.int .u64 (eK x)) (.int .i64 (eV x))) P n (Ix.up T i x) := by
  obtain ⟨cs, h1, h2, h3⟩ := h
  refine ⟨_, w3_heap h1 _ _ _, by simp [h2], ?_⟩
  intro j hj
  by_cases hji : j = i
  · subst hji
    rw [Ix.up_same]
    refine ⟨?_, ?_, ?_⟩ <;> simp [Array.getElem?_setIfInBounds, h2] <;> omega
  · rw [Ix.up_other _ _ hji]
    obtain ⟨q0, q1, q2⟩ := h3 j hj
    refine ⟨?_, ?_, ?_⟩
    · rw [Array.getElem?_setIfInBounds_ne (by omega), Array.getElem?_setIfInBounds_ne (by omega), Array.getElem?_setIfInBounds_ne (by omega)]; exact q0
    · rw [Array.getElem?_setIfInBounds_ne (by omega), Array.getElem?_setIfInBounds_ne (by omega), Array.getElem?_setIfInBounds_ne (by omega)]; exact q1
    · rw [Array.getElem?_setIfInBounds_ne (by omega), Array.getElem?_setIfInBounds_ne (by omega), Array.getElem?_setIfInBounds_ne (by omega)]; exact q2
theorem Lc.set {w : World} {X P n room : Nat} {c : Int} {T : Ix.Tab} (h : Lc w X P n room c T) {i : Nat} (hi : i < n) (x : Option (Int × Int)) : Lc (w3 w P i (.bool (eU x)) (.int .u64 (eK x)) (.int .i64 (eV x))) X P n room c (Ix.up T i x) :=
  ⟨(Kp.w3 (B := fun b => b = P) rfl i _ _ _).row h.row h.neXP, h.pl.set hi x⟩
theorem Lc.count {w : World} {X P n room : Nat} {c : Int} {T : Ix.Tab} (h : Lc w X P n room c T) (d : Int) : Lc (w.setCell ⟨X, 1, none⟩ (.int .i64 d)) X P n room d T := by
  refine ⟨?_, h.pl.same (heap_setCell_other _ _ _ _ (Ne.symm h.neXP))⟩
  rw [heap_setCell_same _ _ _ _ _ _ h.row]; simp
theorem Lc.drewN {w : World} {X P n room : Nat} {c : Int} {T : Ix.Tab} (h : Lc w X P n room c T) (m : Nat) : Lc (w.drewN m) X P n room c T := h.kp (Kp.drewN (fun _ => False) w m) (fun h => h) (fun h => h)
theorem Lx.ofLc {w w' : World} {X P n room : Nat} {c : Int} {T T' : Ix.Tab} (h : Lx w X P n room T) (h' : Lc w' X P n room c T') (hc : c = Ix.cnt T' n) (hle : Ix.cnt T' n ≤ room) (hk : ∀ i k v, i < n → T' i = some (k, v) → 0 ≤ k ∧ k ≤ 18446744073709551615) : Lx w' X P n room T' :=
  { row := by rw [← hc]; exact h'.row, pl := h'.pl, pow := h.pow, two := h.two, one := h.one, most := h.most, le := hle, keys := hk }
theorem Pl.frozen {w : World} {P n : Nat} {T : Ix.Tab} (h : Pl w P n T) (j : Nat) : w.frozen? ⟨P, j, none⟩ = false := by
  obtain ⟨cs, h1, _⟩ := h; exact frozen_of_row w P j _ _ h1
theorem Lc.frozen {w : World} {X P n room : Nat} {c : Int} {T : Ix.Tab} (h : Lc w X P n room c T) (j : Nat) : w.frozen? ⟨X, j, none⟩ = false := frozen_of_row w X j _ _ h.row
end Go.Proofs.Ythidnipmkffilaa
