/-
  The document's Valid: better; orders wherever. Written by mkRcF.py.
-/
import Derived.Test.YtjpkodllemoniaaDoorRcC
namespace Go.Proofs.YtjpkodllemoniaaDoor.Sr
open Go.RowKit Go.Deep
set_option linter.unusedVariables false
set_option linter.unusedSimpArgs false
set_option maxHeartbeats 8000000
set_option maxRecDepth 100000
attribute [local go_sem ↓] Go.wp_at_zero Go.wp_at_succ
theorem dbt_any (s p q : Int) (w : World) : Calls Tryd.prog 53 #[.int .i64 s, .int .i64 p, .int .i64 q] w fun e w' => e = .returned (.bool (bt s p q)) ∧ w' = w := by
  by_cases h : s = 1
  · subst h
    go_enter Tryd.func53, Tryd.ntmps53
    go_wp2
    go_ret
    exact ⟨by simp [bt], rfl⟩
  · have h1 : (s == 1) = false := by simpa using h
    go_enter Tryd.func53, Tryd.ntmps53
    go_wp2
    go_ret
    exact ⟨by simp [bt, h], rfl⟩
/-- orders in a slice, wherever it begins. -/
def Ol (w : World) (p : Option Addr) (l : List Rt) : Prop := ∀ i (h : i < l.length), ∃ b off, p = some ⟨b, off, none⟩ ∧ b < w.heap.size ∧ ∀ j, j < 7 → w.cell? ⟨b, off + i * 7 + j, none⟩ = (rtr l[i])[j]?
theorem Ol.on {w w' : World} {p : Option Addr} {l : List Rt} (h : Ol w p l) (hb : Below w.heap.size w w') : Ol w' p l := fun i hi => by
  obtain ⟨b, off, e, hg, hc⟩ := h i hi
  exact ⟨b, off, e, Nat.lt_of_lt_of_le hg hb.size, fun j hj => (hb.cell (p := ⟨b, off + i * 7 + j, none⟩) hg).trans (hc j hj)⟩
end Go.Proofs.YtjpkodllemoniaaDoor.Sr
