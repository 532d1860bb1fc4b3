/-
  TextEncodes' walk.
-/
import Derived.Test.YtolabllgnfpfaaaDoorTxT
import Derived.Test.YtolabllgnfpfaaaDoorTxU
namespace Go.Proofs.YtolabllgnfpfaaaDoor
open Go.RowKit Go.Deep Go.Lib Go.Shelf Go.Sort
set_option linter.unusedVariables false

def beh : List UInt8 := [98, 101, 104, 105, 110, 100]
theorem Sb.grown {w w' : World} {q : Option Addr} {l : List UInt8} {row : Option Nat} (h : Sb w q l) (hg : w.grownBy w' row) (hne : ∀ a, q = some a → some a.block ≠ row) : Sb w' q l := fun i hi => by
  obtain ⟨b, o, e, h0⟩ := h i hi
  exact ⟨b, o, e, hg.cell h0 (hne ⟨b, o, none⟩ e)⟩
theorem own_caps {w : World} {B g n c : Nat} {xs : List Value} (h : w.ownsRow B 64 2 (.slice (some ⟨g, 0, none⟩) n c) n xs) : n ≤ c ∧ c < 9223372036854775808 := by
  rcases h.2 with ⟨e, _⟩ | ⟨g', c', cur, e, _, _, h1, h2, _⟩
  · cases e
  · obtain ⟨_, rfl⟩ : g = g' ∧ c = c' := by simpa using e
    unfold maxLen at h2
    exact ⟨h1, by omega⟩
theorem owns_allocT {w : World} {B n sz : Nat} {T : TypeId} {v : Value} {xs : List Value} (h : w.ownsRow B T sz v n xs) (o : Obj) : (w.alloc o).ownsRow B T sz v n xs := by
  refine ⟨h.1, ?_⟩
  rcases h.2 with h2 | ⟨g, cap, cur, e, hB, hg, r⟩
  · exact Or.inl h2
  · refine Or.inr ⟨g, cap, cur, e, hB, ?_, r⟩
    have hlt : g < w.heap.size := by
      rcases Nat.lt_or_ge g w.heap.size with h | h
      · exact h
      · rw [Array.getElem?_eq_none h] at hg; cases hg
    rw [Below.heap_alloc w o g hlt]; exact hg
theorem own_blk {B : Nat} {W0 w : World} {v : Value} {l : List UInt8} (h : Own B W0 w v l) : ∀ k, v.ownBlock = some k → B ≤ k ∧ k < w.heap.size := h.1.lt
theorem tg_one (w : World) : Tg (w.alloc (.cells #[.int .i64 5, .string ⟨#[98, 101, 104, 105, 110, 100]⟩] 64)) (some ⟨w.heap.size, 0, none⟩) 1 [(5, beh)] := by
  refine ⟨ts_of_cells fun j u hj => ?_, fun h => by cases h⟩
  rw [Nat.zero_add, World.cell?_alloc_new]
  simpa [tv, beh] using hj

end Go.Proofs.YtolabllgnfpfaaaDoor
