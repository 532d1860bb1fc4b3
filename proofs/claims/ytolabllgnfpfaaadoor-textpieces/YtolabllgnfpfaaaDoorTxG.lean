/-
  TextValues' walk.
-/
import Derived.Test.YtolabllgnfpfaaaDoorTxE
import Derived.Test.YtolabllgnfpfaaaDoorTxF
import Derived.Test.YtolabllgnfpfaaaDoorTxC
namespace Go.Proofs.YtolabllgnfpfaaaDoor
open Go.RowKit Go.Deep Go.Lib Go.Shelf Go.Sort
set_option linter.unusedVariables false

theorem num_five : num [53] = some 5 := by
  have h := num_dec 5 (by decide)
  rw [decDigits_one (by decide)] at h
  exact h
theorem btr {B : Nat} {a b c : World} (h : Below B a b) (hB : B ≤ b.heap.size) (k : Below b.heap.size b c) : Below B a c := h.trans (k.mono hB)
theorem btr' {a b c : World} (h : Below a.heap.size a b) (k : Below b.heap.size b c) : Below a.heap.size a c := btr h h.size k
theorem ball (w : World) (o : Obj) : Below w.heap.size w (w.alloc o) := (Below.refl _ _).alloc (Nat.le_refl _) _

end Go.Proofs.YtolabllgnfpfaaaDoor
