/-
  NumShared: the walk.
-/
import Derived.Test.YtkmlhchkidddmaaShE
namespace Go.Proofs.Ytkmlhchkidddmaa.Ss
open Go.RowKit Go.Deep
set_option linter.unusedVariables false
set_option linter.unusedSimpArgs false
set_option maxHeartbeats 8000000
set_option maxRecDepth 100000
attribute [local go_sem ↓] Go.wp_at_zero Go.wp_at_succ
theorem own_z {base n : Nat} {w : World} {v : Value} {xs : List Value} (h : w.ownsRow base 22 1 v (0 + n) ([] ++ xs)) : w.ownsRow base 22 1 v n xs := by simpa using h
theorem rd_len {l : List Int} {n : Nat} (h : l.length = n) : (ivw l).length = n * 1 := by rw [ivw_len, h]
theorem rd_add {w : World} {b off : Nat} {l : List Int} (h : Rw w b off l) : ∀ ad, (some ⟨b, off, none⟩ : Option Addr) = some ad → ∀ j u, (ivw l)[j]? = some u → w.cell? (ad.add j) = some u := fun ad e j u hj => by
  injection e with e
  subst e
  obtain ⟨h1, h2⟩ := ivw_at hj
  rw [Addr.add_lit, h2]
  exact h.2 j h1
end Go.Proofs.Ytkmlhchkidddmaa.Ss
