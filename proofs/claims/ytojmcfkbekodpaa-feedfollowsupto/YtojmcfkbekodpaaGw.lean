/-
  RuKp
-/
import Derived.Test.YtojmcfkbekodpaaGh
import Derived.Test.YtojmcfkbekodpaaRuSo
namespace Go.Proofs.Ytojmcfkbekodpaa
open Go.RowKit Go.Deep Go.Shelf
set_option linter.unusedVariables false
set_option linter.unusedSimpArgs false
theorem Sm.put {b b2 : Bs} (h : Sm b b2) {s : Int} (hs : s = 1 ∨ s = 2) {p p2 : Option Addr} {c c2 : Nat} {l l2 : LO} (hl : l2.map (·.2) = l.map (·.2)) : Sm (b.put s p c l) (b2.put s p2 c2 l2) := by
  rcases hs with rfl | rfl
  · exact ⟨h.num, hl, h.o2⟩
  · exact ⟨h.num, h.o1, hl⟩
end Go.Proofs.Ytojmcfkbekodpaa
namespace Go.Proofs.Ytojmcfkbekodpaa
open Go.RowKit Go.Deep Go.Shelf
set_option linter.unusedVariables false
set_option linter.unusedSimpArgs false
theorem Sm.symm {b b2 : Bs} (h : Sm b b2) : Sm b2 b := ⟨⟨h.num.1.symm, h.num.2.1.symm, h.num.2.2.1.symm, h.num.2.2.2.symm⟩, h.o1.symm, h.o2.symm⟩
theorem Sm.trans {a b c : Bs} (h : Sm a b) (k : Sm b c) : Sm a c := ⟨⟨k.num.1.trans h.num.1, k.num.2.1.trans h.num.2.1, k.num.2.2.1.trans h.num.2.2.1, k.num.2.2.2.trans h.num.2.2.2⟩, k.o1.trans h.o1, k.o2.trans h.o2⟩
end Go.Proofs.Ytojmcfkbekodpaa
