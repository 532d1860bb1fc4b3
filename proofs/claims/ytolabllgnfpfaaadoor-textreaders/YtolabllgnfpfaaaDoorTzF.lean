/-
  The document's Decode; lent, kept, full.
-/
import Derived.Test.YtolabllgnfpfaaaDoorTzE
import Derived.Test.YtolabllgnfpfaaaDoorTxU
namespace Go.Proofs.YtolabllgnfpfaaaDoor
open Go.RowKit Go.Deep Go.Lib Go.Shelf Go.Sort
set_option linter.unusedVariables false

/-- the document's Read. -/
theorem read_any (l : List UInt8) (q : Option Addr) (cap : Nat) (w : World) (hl : l.length < 4611686018427387904) (hcap : l.length ≤ cap) (hcm : cap < 9223372036854775808) (hS : Sb w q l) :
    Calls Tryd.prog 22 #[.slice q l.length cap] w fun e w' => ReadP l w e w' := by
  by_cases h : (headR l).2.2 = 0
  · obtain ⟨⟨f, s⟩, p, e, hx⟩ : ∃ z p e, headR l = (z, p, e) := ⟨_, _, _, rfl⟩
    rw [hx] at h
    simp only at h
    subst h
    obtain ⟨rfl, _, h1, _, h2, _⟩ := headR_ok hx
    obtain ⟨b, o, rfl, _⟩ := hS 0 (by omega)
    exact read_ok l b o cap w hl hcap hcm hS f s hx
  · exact read_bad l q cap w hl hcap hcm hS h
end Go.Proofs.YtolabllgnfpfaaaDoor
