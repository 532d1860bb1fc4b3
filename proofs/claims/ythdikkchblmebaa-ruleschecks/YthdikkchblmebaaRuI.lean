/-
  The book's small calls.
-/
import Derived.Test.YthdikkchblmebaaRuH
namespace Go.Proofs.Ythdikkchblmebaa
open Go.RowKit Go.Deep Go.Shelf
set_option linter.unusedVariables false
set_option linter.unusedSimpArgs false
set_option maxHeartbeats 4000000
set_option maxRecDepth 100000
def evC (id q r : Int) : Ev := ⟨0, 4, id, 0, 0, 0, 0, 0, 0, q, 0, r, 0⟩
theorem len_any (B : Nat) (b : Bs) (w : World) (h : Bm w B b) (hn : b.l1.length + b.l2.length ≤ 1048576) : Calls Try.prog 13 #[.pointer (some ⟨B, 0, none⟩)] w fun e w' => e = .returned (.int .i64 ((b.l1.length : Int) + b.l2.length)) ∧ ∃ n, w' = w.drewN n := by
  have c2 := row_cell h.row 2
  have c3 := row_cell h.row 3
  simp only [Bs.row, List.getElem?_toArray, List.getElem?_cons_succ, List.getElem?_cons_zero] at c2 c3
  obtain ⟨n1, e1⟩ : ∃ n, b.l1.length = n := ⟨_, rfl⟩
  obtain ⟨n2, e2⟩ : ∃ n, b.l2.length = n := ⟨_, rfl⟩
  rw [e1] at c2 hn ⊢
  rw [e2] at c3 hn ⊢
  clear h e1 e2
  go_enter Try.func13, Try.ntmps13
  go_wp2
  go_quiet (fail)
  go_wp2
  go_ret
  exact ⟨rfl, _, rfl⟩
def oz : Or := ⟨0, 0, 0, 0, 0, 0, 0⟩
/-- an order and its side, and whether there is one. -/
def fo (b : Bs) (id : Int) : Or × Int × Bool :=
  if h : 0 ≤ fnd id b.l1 then ((b.l1[(fnd id b.l1).toNat]'(by have := fnd_ge id b.l1; omega)).2, 1, true)
  else if h : 0 ≤ fnd id b.l2 then ((b.l2[(fnd id b.l2).toNat]'(by have := fnd_ge id b.l2; omega)).2, 2, true)
  else (oz, 0, false)
theorem index88 (a : Array Value) (i : Nat) (v : Value) (w : World) (hi : i < 2) (hv : a[i]? = some v) : (Instr.index 58 (.agg a) (.int .i64 (i : Int))).run Try.prog w = .ok v w := by
  have u := Try.underlying58
  have a1 := Try.isAgg57
  have z1 := Try.sizeOf57
  simp [Instr.index, asIntOf, run_underlying u, part, a1, z1, hv, hi, Sem.run_bind, Result.andThen]
theorem info50 : (Try.prog.info? 53).map (·.size) = some 7 := by kernel_rfl
theorem orow_info (z : Or) : (Try.prog.info? 53).map (·.size) = some (orow z).size := info50
theorem orow_all (z : Or) : (orow z).all (·.oneCell') = true := by simp [orow, Value.oneCell']
theorem orow_size (y z : Or) : (orow y).size = (orow z).size := rfl
end Go.Proofs.Ythdikkchblmebaa
