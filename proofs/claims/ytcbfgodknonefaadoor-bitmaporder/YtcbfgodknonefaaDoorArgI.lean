/-
  A slice of whole numbers that came in, as it may be read.
-/
import Derived.Test.YtcbfgodknonefaaDoorArgs
import Derived.Test.YtcbfgodknonefaaDoorBmY
namespace Go.Proofs.YtcbfgodknonefaaDoor
open Go.ChangeShapes Go.WideShapes Go.ChangeAt Go.RowKit Go.Joins Go.Deep
set_option linter.unusedVariables false

section
variable {H : Type} {enc : TypeId × Value → H} {W : World} {base b0 : Nat} {spare : Nat → Bool} {held : Bool} {r : Reach}
theorem Is.ir {w : World} {v : Value} {xs : List Int} (h : Is w w.heap.size v xs) (hf : xs = [] → v = .slice none 0 0 ∨ ∃ ad cap, v = .slice (some ad) 0 cap) : ∀ w', Below w.heap.size w w' → Ir w' v xs := by
  intro w' k
  rcases h with ⟨rfl, _⟩ | ⟨b, o, cap, e, hb, hc⟩
  · rcases hf rfl with e | e
    · exact Or.inl ⟨rfl, e⟩
    · exact Or.inr (Or.inl ⟨rfl, e⟩)
  · exact Or.inr (Or.inr ⟨b, o, cap, e, fun i hi => by rw [k.cell (p := ⟨b, o + i, none⟩) hb]; exact hc i hi⟩)
set_option maxRecDepth 100000 in
theorem empty_form {v : Value} {d : DataW H} {p : List MemPlace} (hv : Value.okWide Tryd.prog W r b0 29 v) (h : DataW.Trod enc Tryd.prog W base spare held 29 v d p) {l : List Int} (hl : Is W W.heap.size v l) :
    l = [] → v = .slice none 0 0 ∨ ∃ ad cap, v = .slice (some ad) 0 cap := by
  rintro rfl
  obtain ⟨a0, len0, cap0, rfl⟩ := okWide_slice (P := Tryd.prog) Tryd.underlying29 hv
  obtain ⟨p', cap', e⟩ := hl.form
  simp at e
  obtain ⟨rfl, rfl, rfl⟩ := e
  cases a0 with
  | some ad => exact Or.inr ⟨ad, cap0, rfl⟩
  | none =>
    obtain ⟨fuel, hf⟩ := h
    rcases open_ints Tryd.underlying29 Tryd.underlying3 (by kernel_rfl) hf with ⟨hcs, _⟩ | ⟨x, l, c, zs, hcs, _⟩
    · simp [Value.cells] at hcs
      exact Or.inl (by rw [hcs])
    · simp [Value.cells] at hcs
end
end Go.Proofs.YtcbfgodknonefaaDoor
