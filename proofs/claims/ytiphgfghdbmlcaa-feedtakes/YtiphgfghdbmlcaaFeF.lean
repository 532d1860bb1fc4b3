/-
  Frames read.
-/
import Derived.Test.YtiphgfghdbmlcaaFeE
namespace Go.Proofs.Ytiphgfghdbmlcaa
open Go.RowKit Go.Deep
set_option linter.unusedVariables false
set_option linter.unusedSimpArgs false
set_option maxHeartbeats 2000000
set_option maxRecDepth 100000
theorem row8 {w : World} {g : Nat} {t : TypeId} {a0 a1 a2 a3 a4 a5 a6 a7 : Value} (h : w.heap[g]? = some (.cells #[a0, a1, a2, a3, a4, a5, a6, a7] t (0, 0))) : w.cell? ⟨g, 0, none⟩ = some a0 ∧ w.cell? ⟨g, 1, none⟩ = some a1 ∧ w.cell? ⟨g, 2, none⟩ = some a2 ∧ w.cell? ⟨g, 3, none⟩ = some a3 ∧ w.cell? ⟨g, 4, none⟩ = some a4 ∧ w.cell? ⟨g, 5, none⟩ = some a5 ∧ w.cell? ⟨g, 6, none⟩ = some a6 ∧ w.cell? ⟨g, 7, none⟩ = some a7 :=
  ⟨row_cell h 0, row_cell h 1, row_cell h 2, row_cell h 3, row_cell h 4, row_cell h 5, row_cell h 6, row_cell h 7⟩
theorem unpack_kind (k a0 a1 a2 a3 a4 a5 a6 : Int) (h1 : k ≠ 80) (h2 : k ≠ 81) (w : World) : Calls Try.prog 23 #[.agg #[.int .u8 k, .int .u64 a0, .int .u64 a1, .int .u64 a2, .int .u64 a3, .int .u64 a4, .int .u64 a5, .int .u64 a6]] w fun e w' => e = .returned (.tuple #[.agg #[.int .u64 0, .int .i64 0, .int .i64 0, .int .i64 0, .int .u64 0, .int .i64 0], .int .i64 41]) ∧ Below w.heap.size w w' := by
  have q1 : (k != 80) = true := by simpa using h1
  have q2 : (k != 81) = true := by simpa using h2
  clear h1 h2
  go_enter Try.func23, Try.ntmps23
  go_wp2
  refine bodyPost_ret (v := .tuple #[.agg #[.int .u64 0, .int .i64 0, .int .i64 0, .int .i64 0, .int .u64 0, .int .i64 0], .int .i64 41]) (by simp [results, Try.results23, go_sem, *]) rfl ⟨rfl, ?_⟩
  exact btr (ball _ _) (ball _ _)
theorem runpack_kind (k a0 a1 a2 a3 a4 a5 a6 : Int) (h1 : k ≠ 80) (h2 : k ≠ 81) (w : World) : Calls Try.prog 24 #[.agg #[.int .u8 k, .int .u64 a0, .int .u64 a1, .int .u64 a2, .int .u64 a3, .int .u64 a4, .int .u64 a5, .int .u64 a6]] w fun e w' => e = .returned (.tuple #[.agg #[.int .u64 0, .int .i64 0, .int .i64 0, .int .i64 0, .int .u64 0, .int .i64 0], .int .i64 41]) ∧ Below w.heap.size w w' := by
  have q1 : (k != 80) = true := by simpa using h1
  have q2 : (k != 81) = true := by simpa using h2
  clear h1 h2
  go_enter Try.func24, Try.ntmps24
  go_wp2
  refine bodyPost_ret (v := .tuple #[.agg #[.int .u64 0, .int .i64 0, .int .i64 0, .int .i64 0, .int .u64 0, .int .i64 0], .int .i64 41]) (by simp [results, Try.results24, go_sem, *]) rfl ⟨rfl, ?_⟩
  exact btr (ball _ _) (ball _ _)
theorem alloc4 {w W : World} {R : Nat} {c1 c2 c3 c4 : Array Value} {t1 t2 t3 t4 : TypeId} (hR : w.heap.size = R) (hW : (((w.alloc (.cells c1 t1)).alloc (.cells c2 t2)).alloc (.cells c3 t3)).alloc (.cells c4 t4) = W) : Below w.heap.size w W ∧ W.heap[R]? = some (.cells c1 t1 (0, 0)) ∧ W.heap[R + 1]? = some (.cells c2 t2 (0, 0)) ∧ W.heap[R + 1 + 1]? = some (.cells c3 t3 (0, 0)) ∧ W.heap[R + 1 + 1 + 1]? = some (.cells c4 t4 (0, 0)) := by
  rw [← hW, ← hR]
  refine ⟨btr (btr (btr (ball _ _) (ball _ _)) (ball _ _)) (ball _ _), row_on (row_on (row_on (World.alloc_heap_new _ _) (ball _ _)) (ball _ _)) (ball _ _), ?_, ?_, ?_⟩
  · have := row_on (row_on (World.alloc_heap_new (w.alloc (.cells c1 t1)) (.cells c2 t2)) (ball _ (.cells c3 t3))) (ball _ (.cells c4 t4))
    simpa using this
  · have := row_on (World.alloc_heap_new ((w.alloc (.cells c1 t1)).alloc (.cells c2 t2)) (.cells c3 t3)) (ball _ (.cells c4 t4))
    simpa using this
  · have := World.alloc_heap_new (((w.alloc (.cells c1 t1)).alloc (.cells c2 t2)).alloc (.cells c3 t3)) (.cells c4 t4)
    simpa using this
theorem alloc3 {w W : World} {R : Nat} {c1 c2 c3 : Array Value} {t1 t2 t3 : TypeId} (hR : w.heap.size = R) (hW : ((w.alloc (.cells c1 t1)).alloc (.cells c2 t2)).alloc (.cells c3 t3) = W) : Below w.heap.size w W ∧ W.heap[R]? = some (.cells c1 t1 (0, 0)) ∧ W.heap[R + 1]? = some (.cells c2 t2 (0, 0)) ∧ W.heap[R + 1 + 1]? = some (.cells c3 t3 (0, 0)) := by
  rw [← hW, ← hR]
  refine ⟨btr (btr (ball _ _) (ball _ _)) (ball _ _), row_on (row_on (World.alloc_heap_new _ _) (ball _ _)) (ball _ _), ?_, ?_⟩
  · have := row_on (World.alloc_heap_new (w.alloc (.cells c1 t1)) (.cells c2 t2)) (ball _ (.cells c3 t3))
    simpa using this
  · have := World.alloc_heap_new ((w.alloc (.cells c1 t1)).alloc (.cells c2 t2)) (.cells c3 t3)
    simpa using this
end Go.Proofs.Ytiphgfghdbmlcaa
