/-
  The document's of and plus.
-/
import Derived.Test.YthikjpccmplbiaaBigA
namespace Go.Proofs.Ythikjpccmplbiaa
open Go.RowKit BigM
set_option linter.unusedVariables false

theorem info51 : (Try.prog.info? 37).map (fun i => (i.zero, i.size, i.bytes)) = some (some (.int .u32 0), 1, 4) := by kernel_rfl

set_option maxHeartbeats 400000 in
theorem of_any (n : Int) (w : World) (hn : Word n) :
    Calls Try.prog 35 #[.int .u64 n] w fun e w' => (∃ u, e = .returned u ∧ Bn w' u n) ∧ Below w.heap.size w w' := by
  obtain ⟨n0, n1⟩ := hn
  have hd : Dig [n % 4294967296, n / 4294967296] := by
    intro d hd; simp at hd; rcases hd with rfl | rfl <;> omega
  have hv : val [n % 4294967296, n / 4294967296] = n := by simp [val]; omega
  have c1 := fun (w : World) (v : Value) h => trimmed_any w v [n % 4294967296, n / 4294967296] h hd
  rw [hv] at c1
  have C1 := hid c1
  clear c1 hd hv
  go_enter Try.func35, Try.ntmps35
  go_wp2_with fail
  refine (C1.out _ _ ?_).mono ?_
  · refine .inr ⟨w.heap.size, 0, 2, rfl, by simp, by simp [maxLen], alloc_cells _ _, ?_⟩
    intro j hj
    have hj' : j < 2 := hj
    have : j = 0 ∨ j = 1 := by omega
    rcases this with rfl | rfl <;> simp [go_sem, at0]
  · rintro e w1 ⟨⟨u, rfl, hu⟩, rfl⟩
    go_wp2
    go_ret
    exact ⟨⟨u, rfl, hu⟩, (Below.refl _ _).alloc (Nat.le_refl _) _⟩
end Go.Proofs.Ythikjpccmplbiaa
