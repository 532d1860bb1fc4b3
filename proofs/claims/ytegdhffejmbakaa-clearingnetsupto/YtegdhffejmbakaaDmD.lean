/-
  DmD
-/
import Derived.Test.YtegdhffejmbakaaDmC
namespace Go.Proofs.Ytegdhffejmbakaa.Dm
open Go.RowKit Go.Deep BigM MonM TexM ParM
set_option linter.unusedVariables false
set_option linter.unusedSimpArgs false
set_option maxHeartbeats 8000000
set_option maxRecDepth 100000
attribute [local go_sem ↓] Go.wp_at_zero Go.wp_at_succ
theorem am_zero (w : World) : Am w (.agg #[.bool false, .slice none 0 0]) 0 := ⟨_, rfl, bn_nil w⟩
theorem am_row {w : World} {v : Value} {m : Int} {g : Nat} {cs old : Array Value} (h : Am w v m) (hg : w.heap[g]? = some (.cells old 41 (0, 0))) : Am (w.setRow g cs) v m := by
  obtain ⟨u, e, ds, h1, h2⟩ := h
  refine ⟨u, e, ds, ?_, h2⟩
  rcases h1 with h1 | ⟨b, o, cap, e1, l1, l2, ⟨cur, hc⟩, h3⟩
  · exact .inl h1
  · have hne : b ≠ g := fun e => by
      rw [e, hg] at hc
      injection hc with hc
      injection hc with _ hc
      cases hc
    refine .inr ⟨b, o, cap, e1, l1, l2, ⟨cur, by rw [setRow_other w g b cs hne]; exact hc⟩, fun j hj => ?_⟩
    rw [← h3 j hj]
    simp only [World.cell?, setRow_other w g b cs hne]
end Go.Proofs.Ytegdhffejmbakaa.Dm
