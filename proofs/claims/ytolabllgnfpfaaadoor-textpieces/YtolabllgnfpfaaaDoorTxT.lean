/-
  The document's Encode.
-/
import Derived.Test.YtolabllgnfpfaaaDoorTxS
import Derived.BigQuiet
import Derived.Deep.QuietTactic
namespace Go.Proofs.YtolabllgnfpfaaaDoor
open Go.RowKit Go.Deep Go.Lib Go.Shelf Go.Sort
set_option linter.unusedVariables false

/-- a slice of bytes as an answer. -/
def Ans (w w' : World) (v : Value) (l : List UInt8) : Prop := ∃ q cap, v = .slice q l.length cap ∧ Sb w' q l ∧ (∀ a, q = some a → w.heap.size ≤ a.block) ∧ Below w.heap.size w w'
theorem ans_nil {w w' : World} (h : Below w.heap.size w w') : Ans w w' (.slice none 0 0) [] := ⟨none, 0, rfl, (fun i hi => by simp at hi), (fun a ha => by cases ha), h⟩

theorem sb_bytes (w : World) (l : List UInt8) : Sb (bytesWorld w 5 ⟨l.toArray⟩) (some ⟨w.heap.size, 0, none⟩) l := by
  intro i hi
  refine ⟨w.heap.size, 0, rfl, ?_⟩
  rw [Nat.zero_add, bytesWorld_cell w 5 ⟨l.toArray⟩ i (by simpa [ByteArray.size] using hi)]
  simp [List.getD, hi]
theorem run_cat (a b : List UInt8) (h : a.length + b.length ≤ 4611686018427387904) (w : World) : (binOp .add 9 (.string ⟨a.toArray⟩) (.string ⟨b.toArray⟩)).run Tryd.prog w = .ok (.string ⟨(a ++ b).toArray⟩) w := by
  have h1 : (⟨a.toArray⟩ : ByteArray) ++ ⟨b.toArray⟩ = ⟨(a ++ b).toArray⟩ := ba_append a b
  have u := Tryd.underlying9
  go_simp
  omega

end Go.Proofs.YtolabllgnfpfaaaDoor
