/-
  SnapshotEncodes: bytes as texts; a byte of one's own written over; two bytes put behind.
-/
import Derived.Test.YtjpkodllemoniaaDoorWiJ
import Derived.Laws.BytesArg
import Derived.Lib.SlBytesConst
namespace Go.Proofs.YtjpkodllemoniaaDoor.Wi
open Go.RowKit Go.Deep Go.Proofs.YtjpkodllemoniaaDoor.Crc
open Go.Proofs.YtjpkodllemoniaaDoor.Cp (btr ball row_on row_cell row_lt row_ne row6 Or Osz ors ors_len own_form Kp)
set_option linter.unusedVariables false
set_option linter.unusedSimpArgs false
set_option maxHeartbeats 8000000
set_option maxRecDepth 100000
/-- bytes as a text. -/
def txt (xs : List Nat) : ByteArray := strOfNums (xs.map fun x => ((x : Nat) : Int))
theorem conv_bytes (w : World) (b o cap : Nat) (xs : List Nat) (n : Nat) (hn : xs.length = n) (h : Bs w b o xs) :
    (convert 29 9 (.slice (some ⟨b, o, none⟩) n cap)).run Tryd.prog w = .ok (.string (txt xs)) w := by
  refine run_convert_bytes_arg w 29 5 Tryd.underlying29 Tryd.underlying5 b o n cap _ (by simpa using hn) ?_ 9 Tryd.underlying9
  intro i hi
  rw [h i (by omega)]
  simp [List.getD, show i < xs.length by omega]
theorem conv_none (w : World) : (convert 29 9 (.slice none 0 0)).run Tryd.prog w = .ok (.string (txt [])) w := by
  rw [run_convert_bytes_nil w 29 5 Tryd.underlying29 Tryd.underlying5 0 0 9 Tryd.underlying9]; rfl
theorem own_row' {base : Nat} {w : World} {g n c : Nat} {xs : List Nat} (h : w.ownsRow base 5 1 (.slice (some ⟨g, 0, none⟩) n c) n (bv xs)) : base ≤ g ∧ xs.length = n ∧ ∃ cur : Array Value, w.heap[g]? = some (.cells cur 5 (0, 0)) ∧ n ≤ cur.size := by
  obtain ⟨h1, ⟨h, _⟩ | ⟨g', cap', cur, h', hbg, hg, hnc, hcm, hcs, ht⟩⟩ := h
  · simp at h
  · simp only [Value.slice.injEq, Option.some.injEq, Addr.mk.injEq, and_true, true_and] at h'
    obtain ⟨rfl, rfl⟩ := h'
    exact ⟨hbg, by simpa [bv_len] using h1, cur, hg, by simp only [Nat.mul_one] at hcs; omega⟩
theorem own_put {base : Nat} {w : World} {g n c i : Nat} {xs : List Nat} (h : w.ownsRow base 5 1 (.slice (some ⟨g, 0, none⟩) n c) n (bv xs)) (hi : i < n) (y : Nat) : (w.setCell ⟨g, i, none⟩ (.int .u8 (y : Int))).ownsRow base 5 1 (.slice (some ⟨g, 0, none⟩) n c) n (bv (xs.set i y)) := by
  obtain ⟨h1, ⟨h, _⟩ | ⟨g', cap', cur, h', hbg, hg, hnc, hcm, hcs, ht⟩⟩ := h
  · simp at h
  · simp only [Value.slice.injEq, Option.some.injEq, Addr.mk.injEq, and_true, true_and] at h'
    obtain ⟨rfl, rfl⟩ := h'
    have e : bv (xs.set i y) = (bv xs).set i (.int .u8 (y : Int)) := by simp [bv, List.map_set]
    refine ⟨by rw [e, List.length_set]; exact h1, .inr ⟨g, c, _, rfl, hbg, heap_setCell_same w g i cur 5 _ hg, hnc, hcm, by simpa using hcs, ?_⟩⟩
    rw [e, ← ht, Array.toList_setIfInBounds, List.take_set]
theorem own_cell' {base : Nat} {w : World} {g n c i : Nat} {xs : List Nat} (h : w.ownsRow base 5 1 (.slice (some ⟨g, 0, none⟩) n c) n (bv xs)) (hi : i < n) : (∃ u, w.cell? ⟨g, i, none⟩ = some u) ∧ w.frozen? ⟨g, i, none⟩ = false := by
  obtain ⟨_, _, cur, hc, hs⟩ := own_row' h
  exact ⟨⟨cur[i]'(by omega), by rw [row_cell hc]; simp [show i < cur.size by omega]⟩, Cp.row_frz hc i⟩
theorem bv_two (a b : Nat) : ∀ v ∈ bv [a, b], v.cells.size = 1 := fun v hv => by
  simp [bv] at hv
  rcases hv with rfl | rfl <;> rfl
theorem run_own_two (w : World) (ty : TypeId) {base n : Nat} {v : Value} {xs : List Nat} (ho : w.ownsRow base 5 1 v n (bv xs)) (q c y z : Nat) (hc : w.heap[q]? = some (.cells #[.int .u8 (y : Int), .int .u8 (z : Int)] 5 (0, 0))) (hn : n + 2 ≤ 1000000000) (hbase : base ≤ w.heap.size) :
    ∃ v' w', (Builtin.append_ #[29, 29] ty #[v, .slice (some ⟨q, 0, none⟩) 2 c]).run Tryd.prog w = .ok v' w' ∧ w.grownBy w' v.ownBlock := by
  obtain ⟨i, hi, hz, h1, h2⟩ := info_parts info5all
  have hnews : ∀ j u, (bv [y, z])[j]? = some u → w.cell? ((⟨q, 0, none⟩ : Addr).add j) = some u := fun j u hu => by
    rw [Addr.add_lit, Nat.zero_add, row_cell hc]
    simpa [bv] using hu
  obtain ⟨v', w', hr, h3, h4, h5⟩ := run_append_own (P := Tryd.prog) w base 29 ty 5 i (.int .u8 0) 1 1 Tryd.underlying29 hi hz h1 h2 rfl (by decide) _ n (bv xs) ho ⟨q, 0, none⟩ 2 c (bv [y, z]) rfl hnews (bv_one _) (by unfold maxLen; omega) (by omega) hbase
  exact ⟨v', w', hr, h4⟩
end Go.Proofs.YtjpkodllemoniaaDoor.Wi
