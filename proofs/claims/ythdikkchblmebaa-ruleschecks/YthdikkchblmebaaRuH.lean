/-
  An event is told.
-/
import Derived.Test.YthdikkchblmebaaRuG
import Derived.Deep.RegionLaw
import Derived.Deep.Cut
namespace Go.Proofs.Ythdikkchblmebaa
open Go.RowKit Go.Deep Go.Shelf
set_option linter.unusedVariables false
set_option linter.unusedSimpArgs false
set_option maxHeartbeats 4000000
set_option maxRecDepth 100000
def nx (s : Int) : Int := IntKind.u64.wrap (s + 1)
def Bs.told (b : Bs) : Bs := { b with seq := nx b.seq }
def Ev.num (e : Ev) (s : Int) : Ev := { e with sq := s }
/-- the blocks that are told into. -/
def tfp (T B : Nat) (ve : Value) (j : Nat) : Prop := j = T ∨ j = B ∨ ve.ownBlock = some j
theorem own_form {base : Nat} {w : World} {e : TypeId} {size n : Nat} {v : Value} {xs : List Value} (h : w.ownsRow base e size v n xs) : ∃ p c, v = .slice p n c := by
  obtain ⟨_, ⟨rfl, rfl⟩ | ⟨g, c, cur, rfl, _⟩⟩ := h
  · exact ⟨none, 0, rfl⟩
  · exact ⟨_, _, rfl⟩
end Go.Proofs.Ythdikkchblmebaa
