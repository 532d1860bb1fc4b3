/-
  A tree without keys, gone through.
-/
import Derived.Test.YtgejmhiaghaddaaGreatTnE
import Derived.RangeFuncNested
import Derived.RangeFuncBound
import Derived.RangeFuncCalls
import Derived.RangeFuncLeaves
import Derived.RangeFuncKeeps
import Derived.Shelf.Abstract
import Derived.Shelf.RegionOpen
import Derived.Stop.RegionWithIn
import Derived.OwnWalkIn
import Derived.TacticsInMore
import Derived.LoopNIn
import Derived.LoopIn
namespace Go.Proofs.YtgejmhiaghaddaaGreat
open Go.RowKit Go.Deep
set_option linter.unusedVariables false
set_option linter.unusedSimpArgs false
set_option maxHeartbeats 4000000
set_option maxRecDepth 100000
theorem along_none (P : Nat) (s : Int) (w : World) : Calls Tryz.prog 174 #[.pointer (some ⟨P, 0, none⟩), .pointer none, .int .i64 s] w fun e w' => e = .returned (.tuple #[]) ∧ Below w.heap.size w w' := by
  go_enter Tryz.func174, Tryz.ntmps174
  go_wp2
  go_loopw [1] (fun nv wr => nv = .pointer none ∧ Hid (Below w.heap.size w wr)) (fun _ _ => 0)
  case atStart => exact ⟨rfl, hid (Below.refl _ _)⟩
  case round =>
    obtain ⟨rfl, HB⟩ := hrel
    go_wp2
    go_end0
    exact ⟨rfl, HB.out⟩
theorem from1_none (y : Value) (CT CS B off : Nat) (s : Int) (w : World) (hT : w.cell? ⟨CT, 0, none⟩ = some (.pointer (some ⟨B, off, none⟩))) (hS : w.cell? ⟨CS, 0, none⟩ = some (.int .i64 s)) (hB : w.cell? ⟨B, off, none⟩ = some (.pointer none)) :
    Calls Tryz.prog 173 #[y, .pointer (some ⟨CT, 0, none⟩), .pointer (some ⟨CS, 0, none⟩)] w fun e w' => e = .returned (.tuple #[]) ∧ Below w.heap.size w w' := by
  have CA := hid (fun P U => along_none P s U)
  have HC := hid (fun (U : World) (hU : Below w.heap.size w U) => (show U.cell? ⟨CT, 0, none⟩ = some (.pointer (some ⟨B, off, none⟩)) ∧ U.cell? ⟨CS, 0, none⟩ = some (.int .i64 s) ∧ U.cell? ⟨B, off, none⟩ = some (.pointer none) from ⟨by rw [hU.cell (p := ⟨CT, 0, none⟩) (block_lt_of_cell hT)]; exact hT, by rw [hU.cell (p := ⟨CS, 0, none⟩) (block_lt_of_cell hS)]; exact hS, by rw [hU.cell (p := ⟨B, off, none⟩) (block_lt_of_cell hB)]; exact hB⟩))
  clear hT hS hB
  obtain ⟨P, hP⟩ : ∃ P, w.heap.size = P := ⟨_, rfl⟩
  obtain ⟨W, hW⟩ : ∃ W, w.alloc (.cells #[.pointer none, .pointer none, .pointer none, .pointer none, .pointer none, .pointer none, .pointer none, .pointer none, .pointer none, .pointer none, .pointer none, .pointer none, .pointer none, .pointer none, .pointer none, .pointer none, .pointer none, .pointer none, .pointer none, .pointer none, .pointer none, .pointer none, .pointer none, .pointer none, .pointer none, .pointer none, .pointer none, .pointer none, .pointer none, .pointer none, .pointer none, .pointer none, .pointer none, .pointer none, .pointer none, .pointer none, .pointer none, .pointer none, .pointer none, .pointer none, .pointer none, .pointer none, .pointer none, .pointer none, .int .i64 0] 226) = W := ⟨_, rfl⟩
  have HBW := hid (show Below w.heap.size w W from by rw [← hW]; exact ball _ _)
  have HRP := hid (show W.heap[P]? = some (.cells #[.pointer none, .pointer none, .pointer none, .pointer none, .pointer none, .pointer none, .pointer none, .pointer none, .pointer none, .pointer none, .pointer none, .pointer none, .pointer none, .pointer none, .pointer none, .pointer none, .pointer none, .pointer none, .pointer none, .pointer none, .pointer none, .pointer none, .pointer none, .pointer none, .pointer none, .pointer none, .pointer none, .pointer none, .pointer none, .pointer none, .pointer none, .pointer none, .pointer none, .pointer none, .pointer none, .pointer none, .pointer none, .pointer none, .pointer none, .pointer none, .pointer none, .pointer none, .pointer none, .pointer none, .int .i64 0] 226 (0, 0)) from by rw [← hW, ← hP]; exact World.alloc_heap_new _ _)
  have HP := hid hP
  have HW := hid hW
  clear hP hW
  go_enter Tryz.func173, Tryz.ntmps173
  go_upto_region 1 with fail
  rw [HW.out, HP.out]
  obtain ⟨y1, y2, y3⟩ := HC.out W HBW.out
  go_region_with (go_at_call 174; with_reducible refine (CA.out _ _).mono ?_; rintro e w3 ⟨rfl, hb3⟩; have HB3 := hid hb3; clear hb3)
  all_goals (
    clear y1 y2 y3
    go_wp2
    have HB4 := hid (btr (bdrew1 W) HB3.out)
    go_loopw [5] (fun nv wr => Hid (Below W.heap.size W wr)) (fun _ _ => 0)
    case atStart => exact HB4
    case round =>
      have p44 : wr.cell? ⟨P, 44, none⟩ = some (.int .i64 0) := row_cell (row_on HRP.out hrel.out) 44
      go_wp2
      go_end0
      exact ⟨rfl, btr HBW.out hrel.out⟩)
theorem range_none_173 {n : Nat} (hn : 3 ≤ n) {g : Operand} {ps : Array Tmp} {assign body : Code} {Q : Exit → Act → World → Prop} {a : Act} {w : World} {CT CS : Nat}
    (hg : a.eval g = .func (.func 173) #[] #[.pointer (some ⟨CT, 0, none⟩), .pointer (some ⟨CS, 0, none⟩)])
    (hc : ∀ (l : Nat) (W1 : World), Below w.heap.size w W1 → Calls Tryz.prog 173 #[.func (.yield l) #[] #[], .pointer (some ⟨CT, 0, none⟩), .pointer (some ⟨CS, 0, none⟩)] W1 fun e W' => e = .returned (.tuple #[]) ∧ Below W1.heap.size W1 W')
    (hdone : ∀ (D : Nat) (W : World), w.heap.size ≤ D → Below w.heap.size w W → W.heap[D]? = some (.deferred (some [])) → Q .normal { a with defers := { target := .collected D, args := #[] } :: a.defers } W) :
    (Code.rangeFunc g ps assign body).wpIn Fence.wide n Tryz.prog Q a w := by
  refine wpIn_rangeFunc (fun fn hfn => ?_)
  obtain ⟨L, hL2⟩ : ∃ L : LoopState → Option Code → Loop, ∀ s p, L s p = { state := s, pending := p, fn, tmps := a.tmps, params := ps, assign, body, defers := w.heap.size } := ⟨_, fun _ _ => rfl⟩
  obtain ⟨W1, hW1⟩ : ∃ W1, (w.alloc (.deferred (some []))).alloc (.loop (L .ready none)) = W1 := ⟨_, rfl⟩
  have sz : (w.alloc (.deferred (some []))).heap.size = w.heap.size + 1 := by simp
  have bw : Below w.heap.size w W1 := by rw [← hW1]; exact btr (ball _ _) (ball _ _)
  have r1 : W1.heap[w.heap.size + 1]? = some (.loop (L .ready none)) := by
    rw [← hW1, ← sz]; exact World.alloc_heap_new _ _
  have d1 : W1.heap[w.heap.size]? = some (.deferred (some [])) := by
    rw [← hW1, Below.heap_alloc _ _ _ (by rw [sz]; omega)]; exact World.alloc_heap_new _ _
  refine ⟨w.heap.size + 1, [{ target := .collected w.heap.size, args := #[] }], W1, { target := .fn (.func 173) #[.pointer (some ⟨CT, 0, none⟩), .pointer (some ⟨CS, 0, none⟩)], args := #[.func (.yield (w.heap.size + 1)) #[] #[]] }, W1, 173,
    #[.func (.yield (w.heap.size + 1)) #[] #[], .pointer (some ⟨CT, 0, none⟩), .pointer (some ⟨CS, 0, none⟩)], W1, ?_, ?_, fun _ _ => trivial, ?_, fun _ => by omega, ?_⟩
  · rw [← hW1, hL2]; exact run_enterLoop_outer _ _ _ _ _
  · simp only [resolve, hg]
    simp [go_sem]
  · simp [invoke, go_sem, enters_of Tryz.func173 (by kernel_rfl) rfl _ _]
  · refine (callsIn_wide.2 (hc _ W1 bw)).mono ?_
    rintro e W2 ⟨rfl, hb2⟩
    have r2 := row_on r1 hb2
    have d2 := row_on d1 hb2
    have e2 := run_endLoop (P := Tryz.prog) r2 (by rw [hL2]; simp)
    rw [hL2] at e2
    exact ⟨none, _, e2, hdone _ _ (Nat.le_refl _) ((btr bw hb2).trans (belowK_b (w := w) (Nat.le_refl _) _ _ _ _ (by omega) r2 rfl rfl)) ((World.putObj_heap_other (by omega)).trans d2)⟩
theorem range_none_148 {n : Nat} (hn : 3 ≤ n) {g : Operand} {ps : Array Tmp} {assign body : Code} {Q : Exit → Act → World → Prop} {a : Act} {w : World} {CT CS : Nat}
    (hg : a.eval g = .func (.func 148) #[] #[.pointer (some ⟨CT, 0, none⟩), .pointer (some ⟨CS, 0, none⟩)])
    (hc : ∀ (l : Nat) (W1 : World), Below w.heap.size w W1 → Calls Tryz.prog 148 #[.func (.yield l) #[] #[], .pointer (some ⟨CT, 0, none⟩), .pointer (some ⟨CS, 0, none⟩)] W1 fun e W' => e = .returned (.tuple #[]) ∧ Below W1.heap.size W1 W')
    (hdone : ∀ (D : Nat) (W : World), w.heap.size ≤ D → Below w.heap.size w W → W.heap[D]? = some (.deferred (some [])) → Q .normal { a with defers := { target := .collected D, args := #[] } :: a.defers } W) :
    (Code.rangeFunc g ps assign body).wpIn Fence.wide n Tryz.prog Q a w := by
  refine wpIn_rangeFunc (fun fn hfn => ?_)
  obtain ⟨L, hL2⟩ : ∃ L : LoopState → Option Code → Loop, ∀ s p, L s p = { state := s, pending := p, fn, tmps := a.tmps, params := ps, assign, body, defers := w.heap.size } := ⟨_, fun _ _ => rfl⟩
  obtain ⟨W1, hW1⟩ : ∃ W1, (w.alloc (.deferred (some []))).alloc (.loop (L .ready none)) = W1 := ⟨_, rfl⟩
  have sz : (w.alloc (.deferred (some []))).heap.size = w.heap.size + 1 := by simp
  have bw : Below w.heap.size w W1 := by rw [← hW1]; exact btr (ball _ _) (ball _ _)
  have r1 : W1.heap[w.heap.size + 1]? = some (.loop (L .ready none)) := by
    rw [← hW1, ← sz]; exact World.alloc_heap_new _ _
  have d1 : W1.heap[w.heap.size]? = some (.deferred (some [])) := by
    rw [← hW1, Below.heap_alloc _ _ _ (by rw [sz]; omega)]; exact World.alloc_heap_new _ _
  refine ⟨w.heap.size + 1, [{ target := .collected w.heap.size, args := #[] }], W1, { target := .fn (.func 148) #[.pointer (some ⟨CT, 0, none⟩), .pointer (some ⟨CS, 0, none⟩)], args := #[.func (.yield (w.heap.size + 1)) #[] #[]] }, W1, 148,
    #[.func (.yield (w.heap.size + 1)) #[] #[], .pointer (some ⟨CT, 0, none⟩), .pointer (some ⟨CS, 0, none⟩)], W1, ?_, ?_, fun _ _ => trivial, ?_, fun _ => by omega, ?_⟩
  · rw [← hW1, hL2]; exact run_enterLoop_outer _ _ _ _ _
  · simp only [resolve, hg]
    simp [go_sem]
  · simp [invoke, go_sem, enters_of Tryz.func148 (by kernel_rfl) rfl _ _]
  · refine (callsIn_wide.2 (hc _ W1 bw)).mono ?_
    rintro e W2 ⟨rfl, hb2⟩
    have r2 := row_on r1 hb2
    have d2 := row_on d1 hb2
    have e2 := run_endLoop (P := Tryz.prog) r2 (by rw [hL2]; simp)
    rw [hL2] at e2
    exact ⟨none, _, e2, hdone _ _ (Nat.le_refl _) ((btr bw hb2).trans (belowK_b (w := w) (Nat.le_refl _) _ _ _ _ (by omega) r2 rfl rfl)) ((World.putObj_heap_other (by omega)).trans d2)⟩
theorem range_none_156 {n : Nat} (hn : 3 ≤ n) {g : Operand} {ps : Array Tmp} {assign body : Code} {Q : Exit → Act → World → Prop} {a : Act} {w : World} {CT CS : Nat}
    (hg : a.eval g = .func (.func 156) #[] #[.pointer (some ⟨CT, 0, none⟩), .pointer (some ⟨CS, 0, none⟩)])
    (hc : ∀ (l : Nat) (W1 : World), Below w.heap.size w W1 → Calls Tryz.prog 156 #[.func (.yield l) #[] #[], .pointer (some ⟨CT, 0, none⟩), .pointer (some ⟨CS, 0, none⟩)] W1 fun e W' => e = .returned (.tuple #[]) ∧ Below W1.heap.size W1 W')
    (hdone : ∀ (D : Nat) (W : World), w.heap.size ≤ D → Below w.heap.size w W → W.heap[D]? = some (.deferred (some [])) → Q .normal { a with defers := { target := .collected D, args := #[] } :: a.defers } W) :
    (Code.rangeFunc g ps assign body).wpIn Fence.wide n Tryz.prog Q a w := by
  refine wpIn_rangeFunc (fun fn hfn => ?_)
  obtain ⟨L, hL2⟩ : ∃ L : LoopState → Option Code → Loop, ∀ s p, L s p = { state := s, pending := p, fn, tmps := a.tmps, params := ps, assign, body, defers := w.heap.size } := ⟨_, fun _ _ => rfl⟩
  obtain ⟨W1, hW1⟩ : ∃ W1, (w.alloc (.deferred (some []))).alloc (.loop (L .ready none)) = W1 := ⟨_, rfl⟩
  have sz : (w.alloc (.deferred (some []))).heap.size = w.heap.size + 1 := by simp
  have bw : Below w.heap.size w W1 := by rw [← hW1]; exact btr (ball _ _) (ball _ _)
  have r1 : W1.heap[w.heap.size + 1]? = some (.loop (L .ready none)) := by
    rw [← hW1, ← sz]; exact World.alloc_heap_new _ _
  have d1 : W1.heap[w.heap.size]? = some (.deferred (some [])) := by
    rw [← hW1, Below.heap_alloc _ _ _ (by rw [sz]; omega)]; exact World.alloc_heap_new _ _
  refine ⟨w.heap.size + 1, [{ target := .collected w.heap.size, args := #[] }], W1, { target := .fn (.func 156) #[.pointer (some ⟨CT, 0, none⟩), .pointer (some ⟨CS, 0, none⟩)], args := #[.func (.yield (w.heap.size + 1)) #[] #[]] }, W1, 156,
    #[.func (.yield (w.heap.size + 1)) #[] #[], .pointer (some ⟨CT, 0, none⟩), .pointer (some ⟨CS, 0, none⟩)], W1, ?_, ?_, fun _ _ => trivial, ?_, fun _ => by omega, ?_⟩
  · rw [← hW1, hL2]; exact run_enterLoop_outer _ _ _ _ _
  · simp only [resolve, hg]
    simp [go_sem]
  · simp [invoke, go_sem, enters_of Tryz.func156 (by kernel_rfl) rfl _ _]
  · refine (callsIn_wide.2 (hc _ W1 bw)).mono ?_
    rintro e W2 ⟨rfl, hb2⟩
    have r2 := row_on r1 hb2
    have d2 := row_on d1 hb2
    have e2 := run_endLoop (P := Tryz.prog) r2 (by rw [hL2]; simp)
    rw [hL2] at e2
    exact ⟨none, _, e2, hdone _ _ (Nat.le_refl _) ((btr bw hb2).trans (belowK_b (w := w) (Nat.le_refl _) _ _ _ _ (by omega) r2 rfl rfl)) ((World.putObj_heap_other (by omega)).trans d2)⟩
end Go.Proofs.YtgejmhiaghaddaaGreat
