/-
  Contracts and plain facts, part 2.
-/
import Derived.Test.YtacdjioieclggaaDoorYa
namespace Go.Proofs.YtacdjioieclggaaDoor.Msg
open Go.RowKit Go.Maps Go.Deep Go.Lib
set_option linter.unusedVariables false
set_option linter.unusedSimpArgs false
set_option maxHeartbeats 2000000 in
set_option maxRecDepth 100000 in
theorem valueE_any (x : Evt) (hx : x.Ok) (t : Int) (ht : EvTag t) (w : World) : Calls Tryd.prog 64 #[.agg x.v, .int .i64 t] w fun e w' => e = .returned (.tuple #[.int .u64 (x.f t), .bool (x.okV t)]) ∧ Below w.heap.size w w' := by
  unfold EvTag at ht
  unfold Evt.v eV
  obtain ⟨m0, m1⟩ := hx.me
  clear hx
  rcases ht with rfl | rfl | rfl | rfl | rfl | rfl | rfl | rfl | rfl | rfl | rfl | rfl
  · have e : x.okV 34 = true := by simp [Evt.okV]
    rw [e]
    clear e
    go_enter Tryd.func64, Tryd.ntmps64
    go_wp2
    go_ret2
    exact ⟨rfl, ball _ _⟩
  · have e : x.okV 11 = true := by simp [Evt.okV]
    rw [e]
    clear e
    go_enter Tryd.func64, Tryd.ntmps64
    go_wp2
    go_ret2
    exact ⟨rfl, ball _ _⟩
  · have e : x.okV 41 = true := by simp [Evt.okV]
    rw [e]
    clear e
    go_enter Tryd.func64, Tryd.ntmps64
    go_wp2
    go_ret2
    exact ⟨rfl, ball _ _⟩
  · have e : x.okV 37 = true := by simp [Evt.okV]
    rw [e]
    clear e
    go_enter Tryd.func64, Tryd.ntmps64
    go_wp2
    go_ret2
    exact ⟨rfl, ball _ _⟩
  · have e : x.okV 1 = true := by simp [Evt.okV]
    rw [e]
    clear e
    go_enter Tryd.func64, Tryd.ntmps64
    go_wp2
    go_ret2
    exact ⟨rfl, ball _ _⟩
  · have e : x.okV 38 = true := by simp [Evt.okV]
    rw [e]
    clear e
    go_enter Tryd.func64, Tryd.ntmps64
    go_wp2
    go_ret2
    exact ⟨rfl, ball _ _⟩
  · have e : x.okV 210 = true := by simp [Evt.okV]
    rw [e]
    clear e
    go_enter Tryd.func64, Tryd.ntmps64
    go_wp2
    go_ret2
    exact ⟨rfl, ball _ _⟩
  · by_cases h0 : 0 ≤ x.si
    · have e : x.okV 54 = true := by simp [Evt.okV, h0]
      rw [e]
      clear e
      go_enter Tryd.func64, Tryd.ntmps64
      go_wp2
      go_ret2
      exact ⟨rfl, ball _ _⟩
    · have e : x.okV 54 = false := by simp [Evt.okV, h0]
      rw [e]
      clear e
      go_enter Tryd.func64, Tryd.ntmps64
      go_wp2
      go_ret2
      exact ⟨rfl, ball _ _⟩
  · by_cases h0 : 0 ≤ x.ty
    · have e : x.okV 40 = true := by simp [Evt.okV, h0]
      rw [e]
      clear e
      go_enter Tryd.func64, Tryd.ntmps64
      go_wp2
      go_ret2
      exact ⟨rfl, ball _ _⟩
    · have e : x.okV 40 = false := by simp [Evt.okV, h0]
      rw [e]
      clear e
      go_enter Tryd.func64, Tryd.ntmps64
      go_wp2
      go_ret2
      exact ⟨rfl, ball _ _⟩
  · by_cases h0 : 0 ≤ x.pr
    · have e : x.okV 44 = true := by simp [Evt.okV, h0]
      rw [e]
      clear e
      go_enter Tryd.func64, Tryd.ntmps64
      go_wp2
      go_ret2
      exact ⟨rfl, ball _ _⟩
    · have e : x.okV 44 = false := by simp [Evt.okV, h0]
      rw [e]
      clear e
      go_enter Tryd.func64, Tryd.ntmps64
      go_wp2
      go_ret2
      exact ⟨rfl, ball _ _⟩
  · by_cases h0 : 0 ≤ x.re
    · have e : x.okV 378 = true := by simp [Evt.okV, h0]
      rw [e]
      clear e
      go_enter Tryd.func64, Tryd.ntmps64
      go_wp2
      go_ret2
      exact ⟨rfl, ball _ _⟩
    · have e : x.okV 378 = false := by simp [Evt.okV, h0]
      rw [e]
      clear e
      go_enter Tryd.func64, Tryd.ntmps64
      go_wp2
      go_ret2
      exact ⟨rfl, ball _ _⟩
  · by_cases h0 : 0 ≤ x.co
    · have e : x.okV 103 = true := by simp [Evt.okV, h0]
      rw [e]
      clear e
      go_enter Tryd.func64, Tryd.ntmps64
      go_wp2
      go_ret2
      exact ⟨rfl, ball _ _⟩
    · have e : x.okV 103 = false := by simp [Evt.okV, h0]
      rw [e]
      clear e
      go_enter Tryd.func64, Tryd.ntmps64
      go_wp2
      go_ret2
      exact ⟨rfl, ball _ _⟩

set_option maxHeartbeats 2000000 in
set_option maxRecDepth 100000 in
theorem withE_any (x : Evt) (t n : Int) (ht : EvTag t) (w : World) : Calls Tryd.prog 65 #[.agg x.v, .int .i64 t, .int .u64 n] w fun e w' => e = .returned (.agg (x.set t n).v) ∧ Below w.heap.size w w' := by
  unfold EvTag at ht
  unfold Evt.v eV
  rcases ht with rfl | rfl | rfl | rfl | rfl | rfl | rfl | rfl | rfl | rfl | rfl | rfl
  · go_enter Tryd.func65, Tryd.ntmps65
    go_wp2
    exact bodyPost_ret (results_cell_row (fn := Tryd.f65) Tryd.results65 _ _ (w.heap.size + 1) 30 (x.set 34 n).v (0, 0) _ (by rfl) (heap2 _ _ _) Tryd.underlying30 rfl info39) rfl ⟨rfl, btr (ball _ _) (ball _ _)⟩
  · go_enter Tryd.func65, Tryd.ntmps65
    go_wp2
    exact bodyPost_ret (results_cell_row (fn := Tryd.f65) Tryd.results65 _ _ (w.heap.size + 1) 30 (x.set 11 n).v (0, 0) _ (by rfl) (heap2 _ _ _) Tryd.underlying30 rfl info39) rfl ⟨rfl, btr (ball _ _) (ball _ _)⟩
  · go_enter Tryd.func65, Tryd.ntmps65
    go_wp2
    exact bodyPost_ret (results_cell_row (fn := Tryd.f65) Tryd.results65 _ _ (w.heap.size + 1) 30 (x.set 41 n).v (0, 0) _ (by rfl) (heap2 _ _ _) Tryd.underlying30 rfl info39) rfl ⟨rfl, btr (ball _ _) (ball _ _)⟩
  · go_enter Tryd.func65, Tryd.ntmps65
    go_wp2
    exact bodyPost_ret (results_cell_row (fn := Tryd.f65) Tryd.results65 _ _ (w.heap.size + 1) 30 (x.set 37 n).v (0, 0) _ (by rfl) (heap2 _ _ _) Tryd.underlying30 rfl info39) rfl ⟨rfl, btr (ball _ _) (ball _ _)⟩
  · go_enter Tryd.func65, Tryd.ntmps65
    go_wp2
    exact bodyPost_ret (results_cell_row (fn := Tryd.f65) Tryd.results65 _ _ (w.heap.size + 1) 30 (x.set 1 n).v (0, 0) _ (by rfl) (heap2 _ _ _) Tryd.underlying30 rfl info39) rfl ⟨rfl, btr (ball _ _) (ball _ _)⟩
  · go_enter Tryd.func65, Tryd.ntmps65
    go_wp2
    exact bodyPost_ret (results_cell_row (fn := Tryd.f65) Tryd.results65 _ _ (w.heap.size + 1) 30 (x.set 38 n).v (0, 0) _ (by rfl) (heap2 _ _ _) Tryd.underlying30 rfl info39) rfl ⟨rfl, btr (ball _ _) (ball _ _)⟩
  · go_enter Tryd.func65, Tryd.ntmps65
    go_wp2
    exact bodyPost_ret (results_cell_row (fn := Tryd.f65) Tryd.results65 _ _ (w.heap.size + 1) 30 (x.set 210 n).v (0, 0) _ (by rfl) (heap2 _ _ _) Tryd.underlying30 rfl info39) rfl ⟨rfl, btr (ball _ _) (ball _ _)⟩
  · go_enter Tryd.func65, Tryd.ntmps65
    go_wp2
    exact bodyPost_ret (results_cell_row (fn := Tryd.f65) Tryd.results65 _ _ (w.heap.size + 1) 30 (x.set 54 n).v (0, 0) _ (by rfl) (heap2 _ _ _) Tryd.underlying30 rfl info39) rfl ⟨rfl, btr (ball _ _) (ball _ _)⟩
  · go_enter Tryd.func65, Tryd.ntmps65
    go_wp2
    exact bodyPost_ret (results_cell_row (fn := Tryd.f65) Tryd.results65 _ _ (w.heap.size + 1) 30 (x.set 40 n).v (0, 0) _ (by rfl) (heap2 _ _ _) Tryd.underlying30 rfl info39) rfl ⟨rfl, btr (ball _ _) (ball _ _)⟩
  · go_enter Tryd.func65, Tryd.ntmps65
    go_wp2
    exact bodyPost_ret (results_cell_row (fn := Tryd.f65) Tryd.results65 _ _ (w.heap.size + 1) 30 (x.set 44 n).v (0, 0) _ (by rfl) (heap2 _ _ _) Tryd.underlying30 rfl info39) rfl ⟨rfl, btr (ball _ _) (ball _ _)⟩
  · go_enter Tryd.func65, Tryd.ntmps65
    go_wp2
    exact bodyPost_ret (results_cell_row (fn := Tryd.f65) Tryd.results65 _ _ (w.heap.size + 1) 30 (x.set 378 n).v (0, 0) _ (by rfl) (heap2 _ _ _) Tryd.underlying30 rfl info39) rfl ⟨rfl, btr (ball _ _) (ball _ _)⟩
  · go_enter Tryd.func65, Tryd.ntmps65
    go_wp2
    exact bodyPost_ret (results_cell_row (fn := Tryd.f65) Tryd.results65 _ _ (w.heap.size + 1) 30 (x.set 103 n).v (0, 0) _ (by rfl) (heap2 _ _ _) Tryd.underlying30 rfl info39) rfl ⟨rfl, btr (ball _ _) (ball _ _)⟩

set_option maxHeartbeats 1000000 in
set_option maxRecDepth 100000 in
theorem told_any (k : Int) (h1 : 1 ≤ k) (h5 : k ≤ 5) (w : World) : Calls Tryd.prog 33 #[.int .i64 k] w fun e w' => FldP (64 + k) w e w' := by
  obtain rfl | rfl | rfl | rfl | rfl : k = 1 ∨ k = 2 ∨ k = 3 ∨ k = 4 ∨ k = 5 := by omega
  · go_enter Tryd.func33, Tryd.ntmps33
    go_wp2
    go_ret
    exact ⟨some ⟨w.heap.size + 1 + 1 + 1 + 1 + 1, 0, none⟩, 8, rfl, sf_new 65 _ _ _ (tagsL 65) (by simp) rfl, btr (btr (btr (btr (btr (ball _ _) (ball _ _)) (ball _ _)) (ball _ _)) (ball _ _)) (ball _ _)⟩
  · go_enter Tryd.func33, Tryd.ntmps33
    go_wp2
    go_ret
    exact ⟨some ⟨w.heap.size + 1 + 1 + 1 + 1 + 1, 0, none⟩, 4, rfl, sf_new 66 _ _ _ (tagsL 66) (by simp) rfl, btr (btr (btr (btr (btr (ball _ _) (ball _ _)) (ball _ _)) (ball _ _)) (ball _ _)) (ball _ _)⟩
  · go_enter Tryd.func33, Tryd.ntmps33
    go_wp2
    go_ret
    exact ⟨some ⟨w.heap.size + 1 + 1 + 1 + 1 + 1, 0, none⟩, 6, rfl, sf_new 67 _ _ _ (tagsL 67) (by simp) rfl, btr (btr (btr (btr (btr (ball _ _) (ball _ _)) (ball _ _)) (ball _ _)) (ball _ _)) (ball _ _)⟩
  · go_enter Tryd.func33, Tryd.ntmps33
    go_wp2
    go_ret
    exact ⟨some ⟨w.heap.size + 1 + 1 + 1 + 1 + 1, 0, none⟩, 4, rfl, sf_new 68 _ _ _ (tagsL 68) (by simp) rfl, btr (btr (btr (btr (btr (ball _ _) (ball _ _)) (ball _ _)) (ball _ _)) (ball _ _)) (ball _ _)⟩
  · go_enter Tryd.func33, Tryd.ntmps33
    go_wp2
    go_ret
    exact ⟨some ⟨w.heap.size + 1 + 1 + 1 + 1 + 1, 0, none⟩, 4, rfl, sf_new 69 _ _ _ (tagsL 69) (by simp) rfl, btr (btr (btr (btr (btr (ball _ _) (ball _ _)) (ball _ _)) (ball _ _)) (ball _ _)) (ball _ _)⟩

theorem told_no (k : Int) (h : ¬ (1 ≤ k ∧ k ≤ 5)) (w : World) : Calls Tryd.prog 33 #[.int .i64 k] w fun e w' => e = .returned (.slice none 0 0) ∧ Below w.heap.size w w' := by
  have h1 : ¬ k = 1 := by omega
  have h2 : ¬ k = 2 := by omega
  have h3 : ¬ k = 3 := by omega
  have h4 : ¬ k = 4 := by omega
  have h5 : ¬ k = 5 := by omega
  clear h
  go_enter Tryd.func33, Tryd.ntmps33
  go_wp2
  go_ret
  exact ⟨rfl, btr (btr (btr (btr (ball _ _) (ball _ _)) (ball _ _)) (ball _ _)) (ball _ _)⟩
end Go.Proofs.YtacdjioieclggaaDoor.Msg
namespace Go.Proofs.YtacdjioieclggaaDoor.Msg
open Go.RowKit Go.Maps Go.Deep Go.Lib
set_option linter.unusedVariables false
set_option linter.unusedSimpArgs false
theorem agnE_step (x : Evt) (L : List Int) (j : Nat) (h : j < L.length) : agnE x (L.take (j + 1)) = (agnE x (L.take j)).set L[j] (x.f L[j]) := by
  unfold agnE
  rw [List.take_succ_eq_append_getElem h, List.foldl_append]
  rfl
theorem frz_E {w : World} {g : Nat} {cs : Array Value} (h : w.heap[g]? = some (.cells cs 30 (0, 0))) : w.frozen? ⟨g, 0, none⟩ = false ∧ w.frozen? ⟨g, 1, none⟩ = false ∧ w.frozen? ⟨g, 2, none⟩ = false ∧ w.frozen? ⟨g, 3, none⟩ = false ∧ w.frozen? ⟨g, 4, none⟩ = false ∧ w.frozen? ⟨g, 5, none⟩ = false ∧ w.frozen? ⟨g, 6, none⟩ = false ∧ w.frozen? ⟨g, 7, none⟩ = false ∧ w.frozen? ⟨g, 8, none⟩ = false ∧ w.frozen? ⟨g, 9, none⟩ = false ∧ w.frozen? ⟨g, 10, none⟩ = false ∧ w.frozen? ⟨g, 11, none⟩ = false ∧ w.frozen? ⟨g, 12, none⟩ = false :=
  ⟨frozen_of_row w g 0 _ 30 h, frozen_of_row w g 1 _ 30 h, frozen_of_row w g 2 _ 30 h, frozen_of_row w g 3 _ 30 h, frozen_of_row w g 4 _ 30 h, frozen_of_row w g 5 _ 30 h, frozen_of_row w g 6 _ 30 h, frozen_of_row w g 7 _ 30 h, frozen_of_row w g 8 _ 30 h, frozen_of_row w g 9 _ 30 h, frozen_of_row w g 10 _ 30 h, frozen_of_row w g 11 _ 30 h, frozen_of_row w g 12 _ 30 h⟩
theorem st13 (w : World) (A : Nat) (o y : Evt) (h : w.heap[A]? = some (.cells o.v 30 (0, 0))) : ∃ W, (((((((((((((w.setCell ⟨A, 0, none⟩ (.int .u64 y.sq)).setCell ⟨A, 1, none⟩ (.int .i64 y.kd)).setCell ⟨A, 2, none⟩ (.int .u64 y.id)).setCell ⟨A, 3, none⟩ (.int .u64 y.ot)).setCell ⟨A, 4, none⟩ (.int .u64 y.tg)).setCell ⟨A, 5, none⟩ (.int .u32 y.me)).setCell ⟨A, 6, none⟩ (.int .i64 y.si)).setCell ⟨A, 7, none⟩ (.int .i64 y.ty)).setCell ⟨A, 8, none⟩ (.int .i64 y.pr)).setCell ⟨A, 9, none⟩ (.int .u64 y.qt)).setCell ⟨A, 10, none⟩ (.int .u64 y.pe)).setCell ⟨A, 11, none⟩ (.int .i64 y.re)).setCell ⟨A, 12, none⟩ (.int .i64 y.co)) = W ∧ St w A 30 y.v W := by
  have h1 := heap_setCell_same w A 0 _ 30 (.int .u64 y.sq) h
  have h2 := heap_setCell_same (w.setCell ⟨A, 0, none⟩ (.int .u64 y.sq)) A 1 _ 30 (.int .i64 y.kd) h1
  have h3 := heap_setCell_same ((w.setCell ⟨A, 0, none⟩ (.int .u64 y.sq)).setCell ⟨A, 1, none⟩ (.int .i64 y.kd)) A 2 _ 30 (.int .u64 y.id) h2
  have h4 := heap_setCell_same (((w.setCell ⟨A, 0, none⟩ (.int .u64 y.sq)).setCell ⟨A, 1, none⟩ (.int .i64 y.kd)).setCell ⟨A, 2, none⟩ (.int .u64 y.id)) A 3 _ 30 (.int .u64 y.ot) h3
  have h5 := heap_setCell_same ((((w.setCell ⟨A, 0, none⟩ (.int .u64 y.sq)).setCell ⟨A, 1, none⟩ (.int .i64 y.kd)).setCell ⟨A, 2, none⟩ (.int .u64 y.id)).setCell ⟨A, 3, none⟩ (.int .u64 y.ot)) A 4 _ 30 (.int .u64 y.tg) h4
  have h6 := heap_setCell_same (((((w.setCell ⟨A, 0, none⟩ (.int .u64 y.sq)).setCell ⟨A, 1, none⟩ (.int .i64 y.kd)).setCell ⟨A, 2, none⟩ (.int .u64 y.id)).setCell ⟨A, 3, none⟩ (.int .u64 y.ot)).setCell ⟨A, 4, none⟩ (.int .u64 y.tg)) A 5 _ 30 (.int .u32 y.me) h5
  have h7 := heap_setCell_same ((((((w.setCell ⟨A, 0, none⟩ (.int .u64 y.sq)).setCell ⟨A, 1, none⟩ (.int .i64 y.kd)).setCell ⟨A, 2, none⟩ (.int .u64 y.id)).setCell ⟨A, 3, none⟩ (.int .u64 y.ot)).setCell ⟨A, 4, none⟩ (.int .u64 y.tg)).setCell ⟨A, 5, none⟩ (.int .u32 y.me)) A 6 _ 30 (.int .i64 y.si) h6
  have h8 := heap_setCell_same (((((((w.setCell ⟨A, 0, none⟩ (.int .u64 y.sq)).setCell ⟨A, 1, none⟩ (.int .i64 y.kd)).setCell ⟨A, 2, none⟩ (.int .u64 y.id)).setCell ⟨A, 3, none⟩ (.int .u64 y.ot)).setCell ⟨A, 4, none⟩ (.int .u64 y.tg)).setCell ⟨A, 5, none⟩ (.int .u32 y.me)).setCell ⟨A, 6, none⟩ (.int .i64 y.si)) A 7 _ 30 (.int .i64 y.ty) h7
  have h9 := heap_setCell_same ((((((((w.setCell ⟨A, 0, none⟩ (.int .u64 y.sq)).setCell ⟨A, 1, none⟩ (.int .i64 y.kd)).setCell ⟨A, 2, none⟩ (.int .u64 y.id)).setCell ⟨A, 3, none⟩ (.int .u64 y.ot)).setCell ⟨A, 4, none⟩ (.int .u64 y.tg)).setCell ⟨A, 5, none⟩ (.int .u32 y.me)).setCell ⟨A, 6, none⟩ (.int .i64 y.si)).setCell ⟨A, 7, none⟩ (.int .i64 y.ty)) A 8 _ 30 (.int .i64 y.pr) h8
  have h10 := heap_setCell_same (((((((((w.setCell ⟨A, 0, none⟩ (.int .u64 y.sq)).setCell ⟨A, 1, none⟩ (.int .i64 y.kd)).setCell ⟨A, 2, none⟩ (.int .u64 y.id)).setCell ⟨A, 3, none⟩ (.int .u64 y.ot)).setCell ⟨A, 4, none⟩ (.int .u64 y.tg)).setCell ⟨A, 5, none⟩ (.int .u32 y.me)).setCell ⟨A, 6, none⟩ (.int .i64 y.si)).setCell ⟨A, 7, none⟩ (.int .i64 y.ty)).setCell ⟨A, 8, none⟩ (.int .i64 y.pr)) A 9 _ 30 (.int .u64 y.qt) h9
  have h11 := heap_setCell_same ((((((((((w.setCell ⟨A, 0, none⟩ (.int .u64 y.sq)).setCell ⟨A, 1, none⟩ (.int .i64 y.kd)).setCell ⟨A, 2, none⟩ (.int .u64 y.id)).setCell ⟨A, 3, none⟩ (.int .u64 y.ot)).setCell ⟨A, 4, none⟩ (.int .u64 y.tg)).setCell ⟨A, 5, none⟩ (.int .u32 y.me)).setCell ⟨A, 6, none⟩ (.int .i64 y.si)).setCell ⟨A, 7, none⟩ (.int .i64 y.ty)).setCell ⟨A, 8, none⟩ (.int .i64 y.pr)).setCell ⟨A, 9, none⟩ (.int .u64 y.qt)) A 10 _ 30 (.int .u64 y.pe) h10
  have h12 := heap_setCell_same (((((((((((w.setCell ⟨A, 0, none⟩ (.int .u64 y.sq)).setCell ⟨A, 1, none⟩ (.int .i64 y.kd)).setCell ⟨A, 2, none⟩ (.int .u64 y.id)).setCell ⟨A, 3, none⟩ (.int .u64 y.ot)).setCell ⟨A, 4, none⟩ (.int .u64 y.tg)).setCell ⟨A, 5, none⟩ (.int .u32 y.me)).setCell ⟨A, 6, none⟩ (.int .i64 y.si)).setCell ⟨A, 7, none⟩ (.int .i64 y.ty)).setCell ⟨A, 8, none⟩ (.int .i64 y.pr)).setCell ⟨A, 9, none⟩ (.int .u64 y.qt)).setCell ⟨A, 10, none⟩ (.int .u64 y.pe)) A 11 _ 30 (.int .i64 y.re) h11
  have h13 := heap_setCell_same ((((((((((((w.setCell ⟨A, 0, none⟩ (.int .u64 y.sq)).setCell ⟨A, 1, none⟩ (.int .i64 y.kd)).setCell ⟨A, 2, none⟩ (.int .u64 y.id)).setCell ⟨A, 3, none⟩ (.int .u64 y.ot)).setCell ⟨A, 4, none⟩ (.int .u64 y.tg)).setCell ⟨A, 5, none⟩ (.int .u32 y.me)).setCell ⟨A, 6, none⟩ (.int .i64 y.si)).setCell ⟨A, 7, none⟩ (.int .i64 y.ty)).setCell ⟨A, 8, none⟩ (.int .i64 y.pr)).setCell ⟨A, 9, none⟩ (.int .u64 y.qt)).setCell ⟨A, 10, none⟩ (.int .u64 y.pe)).setCell ⟨A, 11, none⟩ (.int .i64 y.re)) A 12 _ 30 (.int .i64 y.co) h12
  refine ⟨_, rfl, ⟨?_, fun b hb => ?_, by simp, fun B W0 hb hB => ?_⟩⟩
  · rw [h13]
    simp [Evt.v, eV]
  · rw [heap_setCell_other _ _ _ _ (by exact hb), heap_setCell_other _ _ _ _ (by exact hb), heap_setCell_other _ _ _ _ (by exact hb), heap_setCell_other _ _ _ _ (by exact hb), heap_setCell_other _ _ _ _ (by exact hb), heap_setCell_other _ _ _ _ (by exact hb), heap_setCell_other _ _ _ _ (by exact hb), heap_setCell_other _ _ _ _ (by exact hb), heap_setCell_other _ _ _ _ (by exact hb), heap_setCell_other _ _ _ _ (by exact hb), heap_setCell_other _ _ _ _ (by exact hb), heap_setCell_other _ _ _ _ (by exact hb), heap_setCell_other _ _ _ _ (by exact hb)]
  · exact (((((((((((((hb.setCell (by exact hB) _).setCell (by exact hB) _).setCell (by exact hB) _).setCell (by exact hB) _).setCell (by exact hB) _).setCell (by exact hB) _).setCell (by exact hB) _).setCell (by exact hB) _).setCell (by exact hB) _).setCell (by exact hB) _).setCell (by exact hB) _).setCell (by exact hB) _).setCell (by exact hB) _)

theorem VaE.next {w w1 w2 W3 W4 : World} {x : Evt} {k : Int} {qb qo : Nat} {L : List Int} {A j : Nat} {v v' : Value} {c : Int} (h : VaE w x k (some ⟨qb, qo, none⟩) L A (A + 1) j v w1) (hb : Below w1.heap.size w1 w2) (hs : St w2 A 30 (agnE x (L.take (j + 1))).v W3)
    (hg : (W3.alloc (.cells #[.int .u64 c] 22)).grownBy W4 v.ownBlock) (ho : W4.ownsRow (A + 1) 22 1 v' (j + 1) (uv ((L.take (j + 1)).map x.f))) (hWA : w.heap.size < A) (hq : qb < A) (hgd : (L.take (j + 1)).all (goodE x) = true) : VaE w x k (some ⟨qb, qo, none⟩) L A (A + 1) (j + 1) v' W4 := by
  have hown : ∀ b, b < A + 1 → some b ≠ v.ownBlock := fun b hlt e => by
    have := (h.o.lt b e.symm).1
    omega
  have h2 := h.below hb
  have hrow : ∀ b o', b < A + 1 → (W3.alloc (.cells #[.int .u64 c] 22)).heap[b]? = some o' → W4.heap[b]? = some o' := fun b o' hlt e => by
    rw [hg.block b (row_lt e) (hown b hlt)]
    exact e
  refine ⟨hrow _ _ (by omega) (row_on ((hs.oth _ (by omega)).trans h2.i) (ball _ _)), hrow _ _ (by omega) (row_on hs.row (ball _ _)), ?_, ho, ?_, ?_, hgd⟩
  · intro i hi
    obtain ⟨b, o', e, c0, c1, c2, c3⟩ := h2.s i hi
    obtain ⟨rfl, rfl⟩ := addr_inj e
    have hc : ∀ j u, w2.cell? ⟨qb, j, none⟩ = some u → W4.cell? ⟨qb, j, none⟩ = some u := fun j u hu => by
      have h3 := hs.cell (b := qb) (by omega) hu
      have h4 := ((ball W3 (.cells #[.int .u64 c] 22)).cell (cell_lt h3)).trans h3
      have h5 := hg.block qb (cell_lt h4) (hown qb (by omega))
      unfold World.cell? at h4 ⊢
      simp only [h5]
      exact h4
    exact ⟨qb, qo, rfl, hc _ _ c0, hc _ _ c1, hc _ _ c2, hc _ _ c3⟩
  · refine (btr (hs.bel _ _ h2.bel (by omega)) (ball _ _)).grown hg ?_ (fun i hi => ?_)
    · have := h2.bel.size
      have e3 := hs.siz
      simp
      omega
    · have := (h.o.lt i hi).1
      omega
  · have e3 := hs.siz
    have e4 := hg.size
    have := h2.bs
    simp at e4
    omega
def ValE (x : Evt) (w : World) (e : Ending) (w' : World) : Prop := Below w.heap.size w w' ∧
  ((¬ ((tagsL x.k).all (goodE x) = true ∧ (agnE x (tagsL x.k)).v = x.v) ∧ e = .returned (.tuple #[.slice none 0 0, .int .i64 40])) ∨
   (((tagsL x.k).all (goodE x) = true ∧ (agnE x (tagsL x.k)).v = x.v) ∧ ∃ p cp, e = .returned (.tuple #[.slice p (tagsL x.k).length cp, .int .i64 0]) ∧ Su w' p ((tagsL x.k).map x.f)))
set_option maxHeartbeats 4000000 in
set_option maxRecDepth 100000 in
theorem valuesE_any (x : Evt) (hx : x.Ok) (w : World) (h0 : 1 ≤ x.kd) (h5 : x.kd ≤ 5) :
    Calls Tryd.prog 32 #[.agg x.v] w fun e w' => ValE x w e w' := by
  have hk : x.k = 64 + x.kd := by unfold Evt.k; rw [if_pos ⟨h0, h5⟩]
  have FA := hid (fun w => told_any x.kd h0 h5 w)
  have VA := hid (fun t ht w => valueE_any x hx t ht w)
  have HIT := hid (fun t ht => ev_tag (t := t) h0 h5 ht)
  have hlen := tags_len (64 + x.kd)
  have hpos : 0 < (tagsL (64 + x.kd)).length := by
    obtain e | e | e | e | e : x.kd = 1 ∨ x.kd = 2 ∨ x.kd = 3 ∨ x.kd = 4 ∨ x.kd = 5 := by omega
    all_goals (rw [e]; simp [tagsL])
  have HMN := hid most_nn
  have HI := hid (show (w.alloc (.cells x.v 30)).heap[w.heap.size]? = some (.cells x.v 30 (0, 0)) from heap_alloc_new _ _)
  obtain ⟨k, hk2⟩ : ∃ k, 64 + x.kd = k := ⟨_, rfl⟩
  have HK := hid (hk.trans hk2)
  unfold FldP at FA
  rw [hk2] at FA HIT hlen hpos
  clear hk hk2 h0 h5 hx
  obtain ⟨L, hL⟩ : ∃ l, tagsL k = l := ⟨_, rfl⟩
  rw [hL] at HIT hlen FA hpos
  have HP := hid (show ∀ e w', (Below w.heap.size w w' ∧
    ((¬ (L.all (goodE x) = true ∧ (agnE x L).v = x.v) ∧ e = .returned (.tuple #[.slice none 0 0, .int .i64 40])) ∨
     ((L.all (goodE x) = true ∧ (agnE x L).v = x.v) ∧ ∃ p cp, e = .returned (.tuple #[.slice p L.length cp, .int .i64 0]) ∧ Su w' p (L.map x.f)))) → ValE x w e w' by
    intro e w' h
    unfold ValE
    rw [HK.out, hL]
    exact h)
  have hne : ((L.length : Int) == 0) = false := by
    have : ¬ (L.length : Int) = 0 := by omega
    simpa using this
  clear hL
  unfold Evt.v eV at HI
  unfold Evt.v eV
  go_enter Tryd.func32, Tryd.ntmps32
  go_wp2_with (first | (go_at_call 33; refine (FA.out _).mono ?_; rintro e w4 ⟨q, cap, rfl, hS, hb⟩; have HB3 := hid hb; have HS3 := hid hS; clear hb hS; refine Hid.out ?_))
  have k0 : w4.cell? ⟨w.heap.size, 1, none⟩ = some (.int .i64 x.kd) := row_cell (row_on HI.out HB3.out) 1
  have HI5 := hid (show (w4.alloc (.cells (bareE x.kd).v 30)).heap[w.heap.size]? = some (.cells x.v 30 (0, 0)) from row_on (row_on HI.out HB3.out) (ball _ _))
  have HBW5 := hid (show Below w.heap.size w (w4.alloc (.cells (bareE x.kd).v 30)) from btr (btr (ball _ _) HB3.out) (ball _ _))
  have HS5 := hid (show Sf (w4.alloc (.cells (bareE x.kd).v 30)) q k L from HS3.out.on (ball _ _))
  have HQ := hid (show 0 < L.length → ∀ b o, q = some ⟨b, o, none⟩ → b < w4.heap.size from fun h0 b o e => by
    obtain ⟨b', o', e', hc, _⟩ := HS3.out 0 h0
    rw [e'] at e
    simp at e
    rw [← e.1]
    exact cell_lt hc)
  have HWA := hid (show w.heap.size < w4.heap.size from row_lt (row_on HI.out HB3.out))
  have PK := hid (show VaE w x k q L w4.heap.size (w4.heap.size + 1) 0 (.slice none 0 0) (w4.alloc (.cells (bareE x.kd).v 30)) from ⟨HI5.out, heap_alloc_new _ _, HS5.out, by simpa [uv] using World.ownsRow_nil _ _ 22 1, HBW5.out, by simp, by simp⟩)
  clear HI HB3 HS3 HI5 HBW5 HS5 FA
  refine hid ?_
  go_wp2
  unfold Evt.v eV at PK
  obtain ⟨W5, hW5⟩ : ∃ y, w4.alloc (.cells #[.int .u64 0, .int .i64 x.kd, .int .u64 0, .int .u64 0, .int .u64 0, .int .u32 0, .int .i64 0, .int .i64 0, .int .i64 0, .int .u64 0, .int .u64 0, .int .i64 0, .int .i64 0] 30) = y := ⟨_, rfl⟩
  have PK2 := hid (show VaE w x k q L w4.heap.size (w4.heap.size + 1) 0 (.slice none 0 0) W5 from hW5 ▸ PK.out)
  obtain ⟨A, hA⟩ : ∃ y, w4.heap.size = y := ⟨_, rfl⟩
  rw [hA] at PK2
  rw [hA] at HQ HWA
  rw [hW5, hA]
  clear hW5 hA PK k0
  go_loopw [6, 7] (fun v iv wr => ∃ j : Nat, j ≤ L.length ∧ iv = .int .i64 j ∧ VaE w x k q L A (A + 1) j v wr) (fun _ iv _ => L.length - (RowKit.intOf iv).toNat)
  case atStart => exact ⟨0, Nat.zero_le _, rfl, PK2.out⟩
  case round =>
    obtain ⟨j, hj, rfl, hpk⟩ := hrel
    have PJ := hid hpk
    clear hpk PK2
    by_cases hjl : j < L.length
    · have hjl' : (j : Int) < (L.length : Int) := by omega
      have hj0 : (0 : Int) ≤ (j : Int) := by omega
      obtain ⟨qb, qo, rfl, f0, _, _, _⟩ := PJ.out.s j hjl
      have HAG := hid (agnE_step x L j hjl)
      have HTK := hid (List.take_succ_eq_append_getElem hjl)
      have HT := hid (HIT.out L[j] (List.getElem_mem hjl))
      have HGF := hid (show goodE x L[j] = false → L.all (goodE x) = false from fun h => by
        rw [List.all_eq_false]
        exact ⟨L[j], List.getElem_mem hjl, by simp [h]⟩)
      obtain ⟨t, ht⟩ : ∃ t, L[j] = t := ⟨_, rfl⟩
      rw [ht] at f0 HAG HT HTK HGF
      have VL := hid (fun w => VA.out t HT.out w)
      obtain ⟨c0, c1, c2, c3, c4, c5, c6, c7, c8, c9, c10, c11, c12⟩ := cells_E PJ.out.i
      unfold Evt.v eV at VL
      have WI := hid (fun w => withE_any (agnE x (L.take j)) t (x.f t) HT.out w)
      unfold Evt.v eV at WI
      cases hok : x.okV t with
      | false =>
        rw [hok] at VL
        go_wp2
        go_region_with (first | (go_at_call 64; refine (VL.out wr.drew).mono ?_; rintro e w1 ⟨rfl, hb⟩; have HB1 := hid hb; clear hb))
        all_goals
          have P1 := hid (PJ.out.drew.below (w' := w1) HB1.out)
          obtain ⟨_, _, he1, g0, g1, _, _⟩ := P1.out.s j hjl
          obtain ⟨rfl, rfl⟩ := addr_inj he1
          rw [ht] at g0 g1
          clear HB1 he1 c0 c1 c2 c3 c4 c5 c6 c7 c8 c9 c10 c11 c12 f0

          go_wp2
          go_ret2
          exact HP.out _ _ ⟨P1.out.bel, Or.inl ⟨bad_of (HGF.out (by simp [goodE, hok])), rfl⟩⟩

      | true =>
        rw [hok] at VL
        by_cases hm0 : 0 < most t
        · by_cases hle : x.f t ≤ most t
          · have hgd : goodE x t = true := by simp [goodE, hok, hle]
            go_wp2
            go_region_with (first | (go_at_call 64; refine (VL.out wr.drew).mono ?_; rintro e w1 ⟨rfl, hb⟩; have HB1 := hid hb; clear hb))
            all_goals
              have P1 := hid (PJ.out.drew.below (w' := w1) HB1.out)
              obtain ⟨_, _, he1, g0, g1, _, _⟩ := P1.out.s j hjl
              obtain ⟨rfl, rfl⟩ := addr_inj he1
              rw [ht] at g0 g1
              clear HB1 he1 c0 c1 c2 c3 c4 c5 c6 c7 c8 c9 c10 c11 c12 f0

              obtain ⟨d0, d1, d2, d3, d4, d5, d6, d7, d8, d9, d10, d11, d12⟩ := cells_E P1.out.a
              go_wp2
              go_region_with (first | (go_at_call 65; refine (WI.out w1.drew).mono ?_; rintro e w2 ⟨rfl, hb⟩; have HR2 := hid (show w2.heap[A]? = some (.cells (agnE x (L.take j)).v 30 (0, 0)) from row_on (w := w1.drew) P1.out.a hb); obtain ⟨e0, e1, e2, e3, e4, e5, e6, e7, e8, e9, e10, e11, e12⟩ := cells_E HR2.out; obtain ⟨z0, z1, z2, z3, z4, z5, z6, z7, z8, z9, z10, z11, z12⟩ := frz_E HR2.out; have HB2 := hid hb; clear hb))
              all_goals
                obtain ⟨W3, hW3, hST⟩ := st13 w2 A _ ((agnE x (L.take j)).set t (x.f t)) HR2.out
                rw [← HAG.out] at hST
                have HST := hid hST
                have HO3 := hid ((P1.out.drew.below HB2.out).o.kept hST.grown (Or.inr (fun e => by have := (P1.out.o.lt A e).1; omega)))
                have hB3 : A + 1 ≤ W3.heap.size := by have h1 := (P1.out.drew.below HB2.out).bs; have h2 := hST.siz; omega
                clear hST z0 z1 z2 z3 z4 z5 z6 z7 z8 z9 z10 z11 z12 e0 e1 e2 e3 e4 e5 e6 e7 e8 e9 e10 e11 e12 d0 d1 d2 d3 d4 d5 d6 d7 d8 d9 d10 d11 d12 HR2
                rw [hW3]
                clear hW3
                go_wp2_with (first | (at_builtin; refine own_app W3 (by rfl) (.tmp 62) (.tmp 64) (by rfl) (A + 1) _ _ j (by rfl) HO3.out (x.f t) (by rfl) (by omega) hB3 ?_; intro v4 w5 ho5 hg5; have HO5 := hid ho5; have HG5 := hid hg5; clear ho5 hg5; refine Hid.out ?_))
                have PN := hid (show VaE w x k (some ⟨qb, qo, none⟩) L A (A + 1) (j + 1) v4 w5 from P1.out.drew.next HB2.out HST.out HG5.out (by rw [HTK.out]; simpa [List.map_append] using HO5.out) HWA.out (HQ.out (by omega) _ _ rfl) (by rw [HTK.out, List.all_append, P1.out.g]; simp [hgd]))
                clear HO5 HG5 HST HO3 P1 HB2
                refine hid ?_
                go_wp2
                go_roundw
                case rel => exact ⟨j + 1, by omega, by go_num, PN.out⟩
                case measure => simp [RowKit.intOf]; omega

          · have hlt : most t < x.f t := by omega
            go_wp2
            go_region_with (first | (go_at_call 64; refine (VL.out wr.drew).mono ?_; rintro e w1 ⟨rfl, hb⟩; have HB1 := hid hb; clear hb))
            all_goals
              have P1 := hid (PJ.out.drew.below (w' := w1) HB1.out)
              obtain ⟨_, _, he1, g0, g1, _, _⟩ := P1.out.s j hjl
              obtain ⟨rfl, rfl⟩ := addr_inj he1
              rw [ht] at g0 g1
              clear HB1 he1 c0 c1 c2 c3 c4 c5 c6 c7 c8 c9 c10 c11 c12 f0

              go_wp2
              go_ret2
              exact HP.out _ _ ⟨P1.out.bel, Or.inl ⟨bad_of (HGF.out (by simp only [goodE, hok, Bool.true_and, Bool.or_eq_false_iff, decide_eq_false_iff_not]; omega)), rfl⟩⟩

        · have hgd : goodE x t = true := by simp only [goodE, hok, Bool.true_and, Bool.or_eq_true, decide_eq_true_eq]; exact Or.inl (by have := HMN.out t; omega)
          go_wp2
          go_region_with (first | (go_at_call 64; refine (VL.out wr.drew).mono ?_; rintro e w1 ⟨rfl, hb⟩; have HB1 := hid hb; clear hb))
          all_goals
            have P1 := hid (PJ.out.drew.below (w' := w1) HB1.out)
            obtain ⟨_, _, he1, g0, g1, _, _⟩ := P1.out.s j hjl
            obtain ⟨rfl, rfl⟩ := addr_inj he1
            rw [ht] at g0 g1
            clear HB1 he1 c0 c1 c2 c3 c4 c5 c6 c7 c8 c9 c10 c11 c12 f0

            obtain ⟨d0, d1, d2, d3, d4, d5, d6, d7, d8, d9, d10, d11, d12⟩ := cells_E P1.out.a
            go_wp2
            go_region_with (first | (go_at_call 65; refine (WI.out w1.drew).mono ?_; rintro e w2 ⟨rfl, hb⟩; have HR2 := hid (show w2.heap[A]? = some (.cells (agnE x (L.take j)).v 30 (0, 0)) from row_on (w := w1.drew) P1.out.a hb); obtain ⟨e0, e1, e2, e3, e4, e5, e6, e7, e8, e9, e10, e11, e12⟩ := cells_E HR2.out; obtain ⟨z0, z1, z2, z3, z4, z5, z6, z7, z8, z9, z10, z11, z12⟩ := frz_E HR2.out; have HB2 := hid hb; clear hb))
            all_goals
              obtain ⟨W3, hW3, hST⟩ := st13 w2 A _ ((agnE x (L.take j)).set t (x.f t)) HR2.out
              rw [← HAG.out] at hST
              have HST := hid hST
              have HO3 := hid ((P1.out.drew.below HB2.out).o.kept hST.grown (Or.inr (fun e => by have := (P1.out.o.lt A e).1; omega)))
              have hB3 : A + 1 ≤ W3.heap.size := by have h1 := (P1.out.drew.below HB2.out).bs; have h2 := hST.siz; omega
              clear hST z0 z1 z2 z3 z4 z5 z6 z7 z8 z9 z10 z11 z12 e0 e1 e2 e3 e4 e5 e6 e7 e8 e9 e10 e11 e12 d0 d1 d2 d3 d4 d5 d6 d7 d8 d9 d10 d11 d12 HR2
              rw [hW3]
              clear hW3
              go_wp2_with (first | (at_builtin; refine own_app W3 (by rfl) (.tmp 62) (.tmp 64) (by rfl) (A + 1) _ _ j (by rfl) HO3.out (x.f t) (by rfl) (by omega) hB3 ?_; intro v4 w5 ho5 hg5; have HO5 := hid ho5; have HG5 := hid hg5; clear ho5 hg5; refine Hid.out ?_))
              have PN := hid (show VaE w x k (some ⟨qb, qo, none⟩) L A (A + 1) (j + 1) v4 w5 from P1.out.drew.next HB2.out HST.out HG5.out (by rw [HTK.out]; simpa [List.map_append] using HO5.out) HWA.out (HQ.out (by omega) _ _ rfl) (by rw [HTK.out, List.all_append, P1.out.g]; simp [hgd]))
              clear HO5 HG5 HST HO3 P1 HB2
              refine hid ?_
              go_wp2
              go_roundw
              case rel => exact ⟨j + 1, by omega, by go_num, PN.out⟩
              case measure => simp [RowKit.intOf]; omega

    · have hje : j = L.length := by omega
      subst hje
      have hp := PJ.out
      obtain ⟨ha, hg, ho⟩ := And.intro hp.a (And.intro hp.g hp.o)
      rw [List.take_length (l := L)] at ha hg ho
      have HG := hid hg
      have HO := hid ho
      have HBE := hid hp.bel
      obtain ⟨c0, c1, c2, c3, c4, c5, c6, c7, c8, c9, c10, c11, c12⟩ := cells_E hp.i
      obtain ⟨d0, d1, d2, d3, d4, d5, d6, d7, d8, d9, d10, d11, d12⟩ := cells_E ha
      clear hp hg ho ha PJ
      by_cases hto : (agnE x L).v = x.v
      · have q := eqE_yes (agnE x L).sq (agnE x L).kd (agnE x L).id (agnE x L).ot (agnE x L).tg (agnE x L).me (agnE x L).si (agnE x L).ty (agnE x L).pr (agnE x L).qt (agnE x L).pe (agnE x L).re (agnE x L).co x.sq x.kd x.id x.ot x.tg x.me x.si x.ty x.pr x.qt x.pe x.re x.co hto
        unfold eV at q
        have HTO := hid hto
        clear hto
        go_wp2
        go_ret2
        obtain ⟨p, cp, hv, hsu⟩ := own_su HO.out
        refine HP.out _ _ ⟨HBE.out, Or.inr ⟨⟨HG.out, HTO.out⟩, p, cp, ?_, hsu⟩⟩
        simp [hv]
      · have q := eqE_no (agnE x L).sq (agnE x L).kd (agnE x L).id (agnE x L).ot (agnE x L).tg (agnE x L).me (agnE x L).si (agnE x L).ty (agnE x L).pr (agnE x L).qt (agnE x L).pe (agnE x L).re (agnE x L).co x.sq x.kd x.id x.ot x.tg x.me x.si x.ty x.pr x.qt x.pe x.re x.co hto
        unfold eV at q
        have HTO := hid hto
        clear hto
        go_wp2
        go_ret2
        exact HP.out _ _ ⟨HBE.out, Or.inl ⟨fun h => HTO.out h.2, rfl⟩⟩
end Go.Proofs.YtacdjioieclggaaDoor.Msg
namespace Go.Proofs.YtacdjioieclggaaDoor.Msg
open Go.RowKit Go.Maps Go.Deep Go.Lib
set_option linter.unusedVariables false
set_option linter.unusedSimpArgs false
theorem goodE_eq (x : Evt) (hx : x.Ok) (hr : x.Rg) (t : Int) (ht : EvTag t) : goodE x t = decide (x.f t ≤ bnd t) := by
  obtain ⟨⟨y1, y2⟩, ⟨a1, a2⟩, ⟨o1, o2⟩, ⟨b1, b2⟩, ⟨c1, c2⟩, ⟨d1, d2⟩, ⟨e1, e2⟩⟩ := hx
  obtain ⟨⟨s1, s2⟩, ⟨t1, t2⟩, ⟨p1, p2⟩, ⟨r1, r2⟩, ⟨n1, n2⟩⟩ := hr
  rcases ht with rfl | rfl | rfl | rfl | rfl | rfl | rfl | rfl | rfl | rfl | rfl | rfl
  all_goals simp [goodE, Evt.okV, most, bnd, Evt.f, evF, upd, u64]
  all_goals omega
theorem allE_eq (x : Evt) (hx : x.Ok) (hr : x.Rg) (k : Int) (h1 : 1 ≤ k) (h5 : k ≤ 5) : (tagsL (64 + k)).all (goodE x) = inB (tagsL (64 + k)) x.f := by
  unfold inB
  have h : ∀ t ∈ tagsL (64 + k), goodE x t = decide (x.f t ≤ bnd t) := fun t ht => goodE_eq x hx hr t (ev_tag h1 h5 ht)
  generalize tagsL (64 + k) = L at h
  induction L with
  | nil => rfl
  | cons a L ih =>
    rw [List.all_cons, List.all_cons, h a (by simp), ih (fun t ht => h t (by simp [ht]))]
theorem vlE_iff (y x : Evt) : y.v = x.v ↔ y.l = x.l := by
  unfold Evt.v eV Evt.l
  simp
theorem toldE_iff (x : Evt) (hx : x.Ok) (hr : x.Rg) (h1 : 1 ≤ x.kd) (h5 : x.kd ≤ 5) : ((tagsL x.k).all (goodE x) = true ∧ (agnE x (tagsL x.k)).v = x.v) ↔ x.told = true := by
  have hk : x.k = 64 + x.kd := by unfold Evt.k; rw [if_pos ⟨h1, h5⟩]
  have e : (agnE x (tagsL x.k)).l = evL x.k (only (tagsL x.k) x.f) := by
    rw [hk]
    exact agnG_l x.f x.kd h1 h5
  have e2 : (tagsL x.k).all (goodE x) = inB (tagsL x.k) x.f := by rw [hk]; exact allE_eq x hx hr x.kd h1 h5
  rw [e2, vlE_iff, e]
  unfold Evt.told Evt.F
  simp
theorem valuesE_zero (x : Evt) (w : World) (h : ¬ (1 ≤ x.kd ∧ x.kd ≤ 5)) : Calls Tryd.prog 32 #[.agg x.v] w fun e w' => e = .returned (.tuple #[.slice none 0 0, .int .i64 41]) ∧ Below w.heap.size w w' := by
  have NA := hid (fun w => told_no x.kd h w)
  clear h
  unfold Evt.v eV at *
  go_enter Tryd.func32, Tryd.ntmps32
  go_wp2_with (first | (go_at_call 33; refine (NA.out _).mono ?_; rintro e w2 ⟨rfl, hb⟩; have HB2 := hid hb; clear hb; refine Hid.out ?_))
  refine hid ?_
  go_wp2
  go_ret2
  exact ⟨rfl, btr (ball _ _) HB2.out⟩
theorem valuesE_bad (x : Evt) (hx : x.Ok) (hr : x.Rg) (w : World) (h : ¬ x.e = 0) : Calls Tryd.prog 32 #[.agg x.v] w fun e w' => e = .returned (.tuple #[.slice none 0 0, .int .i64 x.e]) ∧ Below w.heap.size w w' := by
  by_cases h0 : x.k = 0
  · have : x.e = 41 := by unfold Evt.e; rw [if_pos h0]
    rw [this]
    refine valuesE_zero x w (fun hh => ?_)
    unfold Evt.k at h0
    rw [if_pos hh] at h0
    omega
  · obtain ⟨h1, h5, hk⟩ := kE_cases x h0
    have ht : x.told = false := by
      cases ht : x.told
      · rfl
      · exfalso; apply h; unfold Evt.e; rw [if_neg h0, ht]; rfl
    have he : x.e = 40 := by unfold Evt.e; rw [if_neg h0, ht]; rfl
    rw [he]
    refine (valuesE_any x hx w h1 h5).mono ?_
    rintro e w' ⟨hb, ⟨_, rfl⟩ | ⟨hy, _⟩⟩
    · exact ⟨rfl, hb⟩
    · rw [toldE_iff x hx hr h1 h5, ht] at hy; cases hy
theorem valuesE_ok (x : Evt) (hx : x.Ok) (hr : x.Rg) (w : World) (h : x.e = 0) : Calls Tryd.prog 32 #[.agg x.v] w fun e w' => ∃ p cp, e = .returned (.tuple #[.slice p (tagsL x.k).length cp, .int .i64 0]) ∧ Su w' p ((tagsL x.k).map x.f) ∧ Below w.heap.size w w' := by
  obtain ⟨h0, ht⟩ := eE_zero x h
  obtain ⟨h1, h5, hk⟩ := kE_cases x h0
  refine (valuesE_any x hx w h1 h5).mono ?_
  rintro e w' ⟨hb, ⟨hn, _⟩ | ⟨_, p, cp, rfl, hs⟩⟩
  · exact absurd ((toldE_iff x hx hr h1 h5).2 ht) hn
  · exact ⟨p, cp, rfl, hs, hb⟩
end Go.Proofs.YtacdjioieclggaaDoor.Msg
namespace Go.Proofs.YtacdjioieclggaaDoor.Msg
open Go.RowKit Go.Maps Go.Deep Go.Lib
set_option linter.unusedVariables false
set_option linter.unusedSimpArgs false
set_option maxRecDepth 100000
structure UnR (w : World) (k : Int) (l : List Int) (q : Option Addr) (L : List Int) (A j : Nat) (wr : World) : Prop where
  r0 : wr.heap[w.heap.size]? = some (.cells (frV k l) 40 (0, 0))
  z : wr.heap[w.heap.size + 1]? = some (.cells zeroI.v 27 (0, 0))
  a : wr.heap[A]? = some (.cells (agnF (rdG k l) k (L.take j)).v 27 (0, 0))
  s : Sf wr q k L
  bel : Below w.heap.size w wr
theorem UnR.below {w wr w' : World} {k : Int} {l : List Int} {q : Option Addr} {L : List Int} {A j : Nat} (h : UnR w k l q L A j wr) (hb : Below wr.heap.size wr w') : UnR w k l q L A j w' :=
  ⟨row_on h.r0 hb, row_on h.z hb, row_on h.a hb, h.s.on hb, btr h.bel hb⟩
theorem UnR.drew {w wr : World} {k : Int} {l : List Int} {q : Option Addr} {L : List Int} {A j : Nat} (h : UnR w k l q L A j wr) : UnR w k l q L A j wr.drew := h.below ⟨rfl, rfl, rfl, Nat.le_refl _, fun _ _ => rfl⟩
end Go.Proofs.YtacdjioieclggaaDoor.Msg
namespace Go.Proofs.YtacdjioieclggaaDoor.Msg
open Go.RowKit Go.Maps Go.Deep Go.Lib
set_option linter.unusedVariables false
set_option linter.unusedSimpArgs false
set_option maxRecDepth 100000
attribute [local go_sem ↓] Go.wp_at_zero Go.wp_at_succ
theorem UnE.below {w wr w' : World} {k : Int} {l : List Int} {q : Option Addr} {L : List Int} {A j : Nat} (h : UnE w k l q L A j wr) (hb : Below wr.heap.size wr w') : UnE w k l q L A j w' :=
  ⟨row_on h.r0 hb, row_on h.z hb, row_on h.a hb, h.s.on hb, btr h.bel hb⟩
theorem UnE.drew {w wr : World} {k : Int} {l : List Int} {q : Option Addr} {L : List Int} {A j : Nat} (h : UnE w k l q L A j wr) : UnE w k l q L A j wr.drew := h.below ⟨rfl, rfl, rfl, Nat.le_refl _, fun _ _ => rfl⟩
end Go.Proofs.YtacdjioieclggaaDoor.Msg
namespace Go.Proofs.YtacdjioieclggaaDoor
open Go.ChangeShapes Go.WideShapes Go.ChangeAt Go.RowKit Go.Joins
set_option linter.unusedVariables false
/-- the shorter list. -/
theorem lay_of3 {W : World} (h : laidMetH Tryd.prog [("math/bits.deBruijn32tab", Rows.laid_math_bits_deBruijn32tab), ("math/bits.deBruijn64tab", Rows.laid_math_bits_deBruijn64tab), ("internal/strconv.uint64pow10", Rows.laid_internal_strconv_uint64pow10)] W) : Lay W := by
  have h0 : laidMet Tryd.prog [("math/bits.deBruijn32tab", Rows.laid_math_bits_deBruijn32tab), ("math/bits.deBruijn64tab", Rows.laid_math_bits_deBruijn64tab), ("internal/strconv.uint64pow10", Rows.laid_internal_strconv_uint64pow10)] W := h
  have h1 := h0.tail.tail
  refine ⟨?_⟩
  rw [← powList]
  exact Lib.tabIs_of_head g0 g0Type Tryd.underlying156 Tryd.underlying22 cells22 cells94 h1

section
variable {H : Type} {enc : TypeId × Value → H} {W : World} {base b0 : Nat} {spare : Nat → Bool} {held : Bool} {r : Reach}
end
end Go.Proofs.YtacdjioieclggaaDoor
namespace Go.Proofs.YtacdjioieclggaaDoor.Wi.Crc
set_option linter.unusedVariables false
/-- one bit on. -/
def bit (c : Nat) : Nat := if c % 2 = 1 then (c / 2) ^^^ 3988292384 else c / 2
def tab (i : Nat) : Nat := [0, 498536548, 997073096, 651767980, 1994146192, 1802195444, 1303535960, 1342533948, 3988292384, 4027552580, 3604390888, 3412177804, 2607071920, 2262029012, 2685067896, 3183342108].getD i 0
def nib (c : Nat) : Nat := (c / 16) ^^^ tab (c % 16)

theorem bit_xor (a b : Nat) : bit (a ^^^ b) = bit a ^^^ bit b := by
  have h1 : (a ^^^ b) % 2 = (a + b) % 2 := by
    have e : ∀ n : Nat, n % 2 = (n.testBit 0).toNat := by intro n; rw [Nat.testBit_zero]; by_cases h : n % 2 = 1 <;> simp [h]; omega
    rw [e, Nat.testBit_xor, Nat.testBit_zero, Nat.testBit_zero]
    by_cases ha : a % 2 = 1 <;> by_cases hb : b % 2 = 1 <;> simp [ha, hb] <;> omega
  have h2 : (a ^^^ b) / 2 = a / 2 ^^^ b / 2 := Nat.xor_div_two
  unfold bit
  rw [h1, h2]
  by_cases ha : a % 2 = 1 <;> by_cases hb : b % 2 = 1
  · rw [if_neg (by omega), if_pos ha, if_pos hb]
    apply Nat.eq_of_testBit_eq; intro i; simp only [Nat.testBit_xor]
    cases (a / 2).testBit i <;> cases (b / 2).testBit i <;> cases Nat.testBit 3988292384 i <;> rfl
  · rw [if_pos (by omega), if_pos ha, if_neg hb]
    apply Nat.eq_of_testBit_eq; intro i; simp only [Nat.testBit_xor]
    cases (a / 2).testBit i <;> cases (b / 2).testBit i <;> cases Nat.testBit 3988292384 i <;> rfl
  · rw [if_pos (by omega), if_neg ha, if_pos hb]
    apply Nat.eq_of_testBit_eq; intro i; simp only [Nat.testBit_xor]
    cases (a / 2).testBit i <;> cases (b / 2).testBit i <;> cases Nat.testBit 3988292384 i <;> rfl
  · rw [if_neg (by omega), if_neg ha, if_neg hb]
theorem bit_even (x : Nat) : bit (2 * x) = x := by unfold bit; rw [if_neg (by omega)]; omega
theorem cut16 (q r : Nat) (h : r < 16) : 16 * q + r = (16 * q) ^^^ r := by
  apply Nat.eq_of_testBit_eq; intro j
  rw [Nat.testBit_xor]
  have e1 := Nat.testBit_two_pow_mul_add q (i := 4) (b := r) (by omega) j
  have e2 := Nat.testBit_two_pow_mul (a := q) (i := 4) (j := j)
  rw [show (2 ^ 4 * q) = 16 * q by omega] at e1 e2
  rw [e1, e2]
  by_cases hj : j < 4
  · have hn : ¬ (4 ≤ j) := by omega
    simp [hj, hn]
  · have hr : r.testBit j = false := Nat.testBit_lt_two_pow (Nat.lt_of_lt_of_le (show r < 2 ^ 4 by omega) (Nat.pow_le_pow_right (by decide) (by omega)))
    simp [hj, hr]
    omega
theorem nib_small : ∀ r : Fin 16, bit (bit (bit (bit r.val))) = tab r.val := by decide
theorem nib_bits (c : Nat) : bit (bit (bit (bit c))) = nib c := by
  have e : c = (16 * (c / 16)) ^^^ (c % 16) := by rw [← cut16 _ _ (by omega)]; omega
  have h := nib_small ⟨c % 16, by omega⟩
  dsimp only at h
  unfold nib
  rw [← h]
  conv => lhs; rw [e]
  rw [bit_xor, bit_xor, bit_xor, bit_xor]
  rw [show 16 * (c / 16) = 2 * (2 * (2 * (2 * (c / 16)))) by omega, bit_even, bit_even, bit_even, bit_even]
theorem bit_lt (c : Nat) (h : c < 4294967296) : bit c < 4294967296 := by
  unfold bit
  split
  · exact Nat.xor_lt_two_pow (n := 32) (by omega) (by omega)
  · omega
theorem nib_lt (c : Nat) (h : c < 4294967296) : nib c < 4294967296 := by
  rw [← nib_bits]; exact bit_lt _ (bit_lt _ (bit_lt _ (bit_lt _ h)))
theorem tab_lt (i : Nat) (h : i < 16) : tab i < 4294967296 := by
  have : ∀ r : Fin 16, tab r.val < 4294967296 := by decide
  exact this ⟨i, h⟩
/-- one byte on. -/
def byte (c x : Nat) : Nat := nib (nib (c ^^^ x))
theorem xor_lt (c x : Nat) (h : c < 4294967296) (hx : x < 4294967296) : c ^^^ x < 4294967296 := Nat.xor_lt_two_pow (n := 32) h hx
def run (l : List Nat) (c : Nat) : Nat := l.foldl byte c
theorem run_snoc (l : List Nat) (x c : Nat) : run (l ++ [x]) c = byte (run l c) x := by simp [run]
/-- the check sum. -/
def crc (l : List Nat) : Nat := 4294967295 - run l 4294967295
theorem not_xor (c : Nat) (h : c < 4294967296) : c ^^^ 4294967295 = 4294967295 - c := by
  have h1 : (4294967295 : Nat) = 2 ^ 32 - 1 := by decide
  apply Nat.eq_of_testBit_eq; intro i
  rw [Nat.testBit_xor]
  have e := Nat.testBit_two_pow_sub_succ (x := c) (n := 32) h i
  have e2 : 2 ^ 32 - (c + 1) = 4294967295 - c := by omega
  rw [e2] at e
  rw [e, h1, Nat.testBit_two_pow_sub_one]
  by_cases hi : i < 32
  · simp [hi]
  · have : c.testBit i = false := Nat.testBit_lt_two_pow (Nat.lt_of_lt_of_le (show c < 2 ^ 32 from h) (Nat.pow_le_pow_right (by decide) (by omega)))
    simp [hi, this]
theorem crc_lt (l : List Nat) : crc l < 4294967296 := by unfold crc; omega
end Go.Proofs.YtacdjioieclggaaDoor.Wi.Crc
namespace Go.Proofs.YtacdjioieclggaaDoor.Wi
open Go.RowKit Go.Deep Crc
set_option linter.unusedVariables false
/-- the table lies where the program's text lays it. -/
def Laid (w : World) : Prop := ∀ k : Nat, k < 16 → w.cell? ⟨0, k, none⟩ = some (.int .u32 (tab k : Nat))
/-- bytes in memory, from a place on. -/
def Bs (w : World) (b o : Nat) (xs : List Nat) : Prop := ∀ i (h : i < xs.length), w.cell? ⟨b, o + i, none⟩ = some (.int .u8 ((xs[i] : Nat) : Int))
def Oct (xs : List Nat) : Prop := ∀ x ∈ xs, x < 256

set_option maxHeartbeats 1000000 in
set_option maxRecDepth 100000 in
theorem wsum_some (xs : List Nat) (b o cap : Nat) (w : World) (hl : xs.length < 9223372036854775808) (hx : Oct xs) (hB : Bs w b o xs) (hL : Laid w) :
    Calls Tryd.prog 47 #[.slice (some ⟨b, o, none⟩) xs.length cap] w fun e w' => e = .returned (.int .u32 (crc xs : Nat)) ∧ w' = w := by
  have HB := hid hB
  have HL := hid hL
  have HX := hid hx
  clear hB hL hx
  go_enter Tryd.func47, Tryd.ntmps47
  go_wp2_with fail
  go_loopw [3, 5, 8] (fun sv _ iv wr => ∃ (k c : Nat), k ≤ xs.length ∧ iv = .int .i64 k ∧ sv = .int .u32 c ∧ c < 4294967296 ∧ Hid (run (xs.take k) 4294967295 = c) ∧ wr = w) (fun _ _ iv _ => xs.length - (RowKit.intOf iv).toNat)
  case atStart => exact ⟨0, 4294967295, Nat.zero_le _, rfl, rfl, by decide, rfl, rfl⟩
  case round =>
    obtain ⟨k, c, hk, rfl, rfl, hc, HR, rfl⟩ := hrel
    by_cases hlt : k < xs.length
    · obtain ⟨x, hx⟩ : ∃ x, xs[k] = x := ⟨_, rfl⟩
      have x1 : x < 256 := by rw [← hx]; exact HX.out _ (List.getElem_mem hlt)
      have hcell := HB.out k hlt
      rw [hx] at hcell
      have i0 : (0 : Int) ≤ (k : Int) := by omega
      have i1 : (k : Int) < (xs.length : Int) := by omega
      obtain ⟨s1, h1⟩ : ∃ s, c ^^^ x = s := ⟨_, rfl⟩
      have l1 : s1 < 4294967296 := by rw [← h1]; exact xor_lt c x hc (by omega)
      have e1 : bits .xor .u32 (c : Int) (x : Int) = (s1 : Int) := by rw [u32_xor_nat c x hc (by omega), h1]
      obtain ⟨r1, hr1⟩ : ∃ r, s1 % 16 = r := ⟨_, rfl⟩
      obtain ⟨q1, hq1⟩ : ∃ r, s1 / 16 = r := ⟨_, rfl⟩
      have r1l : r1 < 16 := by omega
      have e2 : bits .and .u32 (s1 : Int) 15 = (r1 : Int) := by
        have := u32_and_nat s1 15 l1 (by decide)
        rw [show ((15 : Nat) : Int) = 15 from rfl, show s1 &&& 15 = s1 % 16 from Nat.and_two_pow_sub_one_eq_mod s1 4, hr1] at this
        exact this
      have e3 : (s1 : Int) / 16 = (q1 : Int) := by omega
      have t1 := HL.out r1 r1l
      obtain ⟨T1, hT1⟩ : ∃ r, tab r1 = r := ⟨_, rfl⟩
      rw [hT1] at t1
      obtain ⟨s2, h2⟩ : ∃ s, q1 ^^^ T1 = s := ⟨_, rfl⟩
      have n1 : nib s1 = s2 := by unfold nib; rw [hr1, hq1, hT1, h2]
      have l2 : s2 < 4294967296 := by rw [← n1]; exact nib_lt _ l1
      have e4 : bits .xor .u32 (q1 : Int) (T1 : Int) = (s2 : Int) := by rw [u32_xor_nat q1 T1 (by omega) (by rw [← hT1]; exact tab_lt _ r1l), h2]
      obtain ⟨r2, hr2⟩ : ∃ r, s2 % 16 = r := ⟨_, rfl⟩
      obtain ⟨q2, hq2⟩ : ∃ r, s2 / 16 = r := ⟨_, rfl⟩
      have r2l : r2 < 16 := by omega
      have e5 : bits .and .u32 (s2 : Int) 15 = (r2 : Int) := by
        have := u32_and_nat s2 15 l2 (by decide)
        rw [show ((15 : Nat) : Int) = 15 from rfl, show s2 &&& 15 = s2 % 16 from Nat.and_two_pow_sub_one_eq_mod s2 4, hr2] at this
        exact this
      have e6 : (s2 : Int) / 16 = (q2 : Int) := by omega
      have t2 := HL.out r2 r2l
      obtain ⟨T2, hT2⟩ : ∃ r, tab r2 = r := ⟨_, rfl⟩
      rw [hT2] at t2
      obtain ⟨s3, h3⟩ : ∃ s, q2 ^^^ T2 = s := ⟨_, rfl⟩
      have n2 : nib s2 = s3 := by unfold nib; rw [hr2, hq2, hT2, h3]
      have l3 : s3 < 4294967296 := by rw [← n2]; exact nib_lt _ l2
      have e7 : bits .xor .u32 (q2 : Int) (T2 : Int) = (s3 : Int) := by rw [u32_xor_nat q2 T2 (by omega) (by rw [← hT2]; exact tab_lt _ r2l), h3]
      have HR2 := hid (show run (xs.take (k + 1)) 4294967295 = s3 by
        rw [List.take_succ_eq_append_getElem hlt, run_snoc, HR.out, hx]
        unfold byte; rw [h1, n1, n2])
      clear h1 h2 h3 n1 n2 hr1 hq1 hr2 hq2 hT1 hT2 hx
      go_wp2
      go_roundw
      case rel => exact ⟨k + 1, s3, by omega, by go_num, rfl, l3, HR2, trivial⟩
      case measure => simp [RowKit.intOf]; omega
    · have hc2 := HR.out
      rw [List.take_of_length_le (by omega)] at hc2
      have HC := hid (show 4294967295 - c = crc xs by unfold crc; rw [hc2])
      have eN : bits .xor .u32 IntKind.u32.max (c : Int) = ((crc xs : Nat) : Int) := by
        have hm : IntKind.u32.max = ((4294967295 : Nat) : Int) := by decide
        rw [hm, u32_xor_nat 4294967295 c (by decide) hc, Nat.xor_comm, not_xor c hc, HC.out]
      clear hc2 HC
      go_wp2
      go_ret
      exact ⟨rfl, rfl⟩
end Go.Proofs.YtacdjioieclggaaDoor.Wi
namespace Go.Proofs.YtacdjioieclggaaDoor.Wi
open Go.RowKit Go.Deep Crc
set_option linter.unusedVariables false
/-- bytes as values. -/
def bv (xs : List Nat) : List Value := xs.map fun x => .int .u8 ((x : Nat) : Int)
theorem bv_len (xs : List Nat) : (bv xs).length = xs.length := by simp [bv]
theorem bv_append (xs ys : List Nat) : bv (xs ++ ys) = bv xs ++ bv ys := by simp [bv]
theorem bv_one (xs : List Nat) : ∀ v ∈ bv xs, v.oneCell' = true := by
  intro v h
  simp only [bv, List.mem_map] at h
  obtain ⟨x, _, rfl⟩ := h
  rfl
/-- the lowest bytes of a number. -/
def le : Nat → Nat → List Nat
  | 0, _ => []
  | k + 1, v => v % 256 :: le k (v / 256)
theorem le_len (k v : Nat) : (le k v).length = k := by
  induction k generalizing v with
  | zero => rfl
  | succ k ih => simp [le, ih]
theorem le_snoc (k v : Nat) : le (k + 1) v = le k v ++ [v / 256 ^ k % 256] := by
  induction k generalizing v with
  | zero => simp [le]
  | succ k ih => rw [le, ih, le]; simp [Nat.div_div_eq_div_mul, Nat.pow_succ, Nat.mul_comm]
theorem le_oct (k v : Nat) : Oct (le k v) := by
  induction k generalizing v with
  | zero => intro x h; simp [le] at h
  | succ k ih =>
    intro x h
    simp only [le, List.mem_cons] at h
    rcases h with rfl | h
    · omega
    · exact ih _ x h
theorem set_mid {α : Type} (P R : List α) (a y : α) (n : Nat) (h : n = P.length) : (P ++ a :: R).set n y = P ++ y :: R := by
  subst h
  simp
theorem splice_snoc {α : Type} (L : List α) (o : Nat) (A : List α) (y : α) (h : o + A.length < L.length) : (splice L o A).set (o + A.length) y = splice L o (A ++ [y]) := by
  unfold splice
  have e1 : L.drop (o + A.length) = L[o + A.length] :: L.drop (o + A.length + 1) := List.drop_eq_getElem_cons h
  rw [e1]
  have hl : (L.take o).length = o := by simp; omega
  have e2 : (L.take o ++ (A ++ L[o + A.length] :: L.drop (o + A.length + 1))) = (L.take o ++ A) ++ L[o + A.length] :: L.drop (o + A.length + 1) := by simp
  have e3 : o + A.length = (L.take o ++ A).length := by simp; omega
  rw [e2, set_mid _ _ _ y _ e3]
  simp [Nat.add_assoc]
theorem splice_at {α : Type} (A Z Y : List α) (h : Y.length ≤ Z.length) : splice (A ++ Z) A.length Y = A ++ (Y ++ Z.drop Y.length) := by
  unfold splice
  rw [List.take_left', List.drop_append]
  · simp
  · rfl

set_option maxHeartbeats 400000 in
theorem headOf_any (k : Int) (w : World) :
    Calls Tryd.prog 45 #[.int .u8 k] w fun e w' => e = .returned (.agg #[.int .u8 66, .int .u8 70, .int .u8 k, .int .u8 0]) ∧ Below w.heap.size w w' := by
  go_enter Tryd.func45, Tryd.ntmps45
  go_wp2
  exact bodyPost_ret (v := .agg #[.int .u8 66, .int .u8 70, .int .u8 k, .int .u8 0]) (by simp [results, Tryd.results45, go_sem]) rfl ⟨rfl, (Below.refl w.heap.size w).alloc (Nat.le_refl _) _⟩

set_option maxHeartbeats 1000000 in
set_option maxRecDepth 100000 in
theorem putLowest_any (L : List Value) (t : TypeId) (b o n cap v : Nat) (w : World) (hg : w.heap[b]? = some (.cells L.toArray t (0, 0))) (hfit : o + n ≤ L.length) (hn : n ≤ 8) (hv : v < 18446744073709551616) :
    Calls Tryd.prog 46 #[.slice (some ⟨b, o, none⟩) n cap, .int .u64 (v : Nat)] w fun e w' => e = .returned (.tuple #[]) ∧ w' = w.setRow b (splice L o (bv (le n v))).toArray := by
  have HG := hid hg
  clear hg
  go_enter Tryd.func46, Tryd.ntmps46
  go_wp2_with fail
  go_loopw [1, 4, 7] (fun nv _ iv wr => ∃ (k : Nat), k ≤ n ∧ iv = .int .i64 k ∧ nv = .int .u64 ((v / 256 ^ k : Nat) : Int) ∧ wr = w.setRow b (splice L o (bv (le k v))).toArray) (fun _ _ iv _ => n - (RowKit.intOf iv).toNat)
  case atStart =>
    refine ⟨0, Nat.zero_le _, rfl, by simp, ?_⟩
    have : splice L o (bv (le 0 v)) = L := by simp [splice, le, bv]
    rw [this]
    exact (setRow_self w b L.toArray t (0, 0) HG.out).symm
  case round =>
    obtain ⟨k, hk, rfl, rfl, hwr⟩ := hrel
    have HWR := hid hwr
    obtain ⟨u, hu⟩ : ∃ u, v / 256 ^ k = u := ⟨_, rfl⟩
    rw [hu]
    have u1 : u < 18446744073709551616 := by rw [← hu]; exact Nat.lt_of_le_of_lt (Nat.div_le_self _ _) hv
    by_cases hlt : k < n
    · have hrow : wr.heap[b]? = some (.cells (splice L o (bv (le k v))).toArray t (0, 0)) := by rw [hwr]; exact setRow_heap w b _ _ t _ HG.out
      have hll : (splice L o (bv (le k v))).length = L.length := length_splice L o _ (by rw [bv_len, le_len]; omega)
      obtain ⟨y0, hy0⟩ : ∃ y0, wr.cell? ⟨b, o + k, none⟩ = some y0 := by
        rw [cell_of_row wr b (o + k) _ t _ hrow]
        exact ⟨_, by rw [List.getElem?_toArray]; exact List.getElem?_eq_getElem (by omega)⟩
      have hfz : wr.frozen? ⟨b, o + k, none⟩ = false := frozen_of_row wr b (o + k) _ t hrow
      have i0 : (0 : Int) ≤ (k : Int) := by omega
      have i1 : (k : Int) < (n : Int) := by omega
      obtain ⟨x, hx⟩ : ∃ x, u % 256 = x := ⟨_, rfl⟩
      obtain ⟨u2, hu2⟩ : ∃ x, u / 256 = x := ⟨_, rfl⟩
      have e1 : IntKind.u8.wrap (u : Int) = (x : Int) := by
        have : IntKind.u8.wrap (u : Int) = (u : Int) % 256 := by simp [IntKind.wrap, IntKind.bits, IntKind.signed]
        rw [this]; omega
      have e2 : (u : Int) / 256 = (u2 : Int) := by omega
      have HN := hid (show v / 256 ^ (k + 1) = u2 by rw [Nat.pow_succ, ← Nat.div_div_eq_div_mul, hu, hu2])
      have HW2 := hid (show wr.setCell ⟨b, o + k, none⟩ (.int .u8 (x : Int)) = w.setRow b (splice L o (bv (le (k + 1) v))).toArray by
        rw [setCell_eq_setRow wr b (o + k) _ t _ _ hrow, hwr, setRow_setRow]
        congr 1
        rw [List.setIfInBounds_toArray]
        congr 1
        have := splice_snoc L o (bv (le k v)) (.int .u8 (x : Int)) (by rw [bv_len, le_len]; omega)
        rw [bv_len, le_len] at this
        rw [this, le_snoc, bv_append, hu, hx]
        rfl)
      clear hx hu2 hrow hll hwr hu HWR
      go_wp2
      go_roundw
      case rel => exact ⟨k + 1, by omega, by go_num, by rw [HN.out], HW2.out⟩
      case measure => simp [RowKit.intOf]; omega
    · have hk' : k = n := by omega
      subst hk'
      clear hwr hu
      go_wp2
      go_end0
      exact ⟨rfl, HWR.out⟩
end Go.Proofs.YtacdjioieclggaaDoor.Wi
namespace Go.Proofs.YtacdjioieclggaaDoor.Wi
open Go.RowKit Go.Deep Crc
set_option linter.unusedVariables false
/-- a frame's bytes, without the check sum, and with it. -/
def body (k : Nat) (ws : List Nat) : List Nat := [66, 70, k, 0] ++ ws.flatMap (le 8)
def frame (k : Nat) (ws : List Nat) : List Nat := body k ws ++ le 4 (crc (body k ws))
/-- a frame as a value. -/
def fv (k w0 w1 w2 w3 w4 w5 w6 : Nat) : Value := .agg #[.int .u8 (k : Nat), .int .u64 (w0 : Nat), .int .u64 (w1 : Nat), .int .u64 (w2 : Nat), .int .u64 (w3 : Nat), .int .u64 (w4 : Nat), .int .u64 (w5 : Nat), .int .u64 (w6 : Nat)]

theorem laid_to {w w' : World} (h : Laid w) (hb : Below w.heap.size w w') : Laid w' := by
  intro k hk
  have := h k hk
  exact (hb.cell (block_lt_of_cell this)).trans this
theorem bal {w w' : World} (h : Below w.heap.size w w') (o : Obj) : Below w.heap.size w (w'.alloc o) := h.alloc h.size o
theorem btr {w w' w1 : World} (h : Below w.heap.size w w') (k : Below w'.heap.size w' w1) : Below w.heap.size w w1 := h.trans (k.mono h.size)
theorem blk_to {w w' : World} {n b : Nat} (hb : Below n w w') (h : b < n) : w'.heap[b]? = w.heap[b]? := hb.block b h
def zs (n : Nat) : List Value := List.replicate n (.int .u8 0)
/-- what is written so far. -/
def pre (k : Nat) (ws : List Nat) (i : Nat) : List Nat := [66, 70, k, 0] ++ (ws.take i).flatMap (le 8)
theorem pre_len (k : Nat) (ws : List Nat) (i : Nat) (h : i ≤ ws.length) : (pre k ws i).length = 4 + 8 * i := by
  have : ∀ l : List Nat, (l.flatMap (le 8)).length = 8 * l.length := by
    intro l
    induction l with
    | nil => rfl
    | cons x l ih => simp [le_len, ih]; omega
  unfold pre
  rw [List.length_append, this]
  simp
  omega
theorem pre_step (k : Nat) (ws : List Nat) (i : Nat) (h : i < ws.length) (m : Nat) (hm : 8 ≤ m) :
    splice (bv (pre k ws i) ++ zs m) (4 + 8 * i) (bv (le 8 ws[i])) = bv (pre k ws (i + 1)) ++ zs (m - 8) := by
  have hl := pre_len k ws i (by omega)
  have := splice_at (bv (pre k ws i)) (zs m) (bv (le 8 ws[i])) (by simp [bv_len, le_len, zs]; omega)
  rw [bv_len, hl] at this
  rw [this]
  have e : pre k ws (i + 1) = pre k ws i ++ le 8 ws[i] := by
    unfold pre
    rw [List.take_succ_eq_append_getElem h, List.flatMap_append, List.append_assoc]
    congr 1
  rw [e, bv_append, List.append_assoc]
  congr 2
  simp [zs, bv_len, le_len]
theorem info32 : (Tryd.prog.info? 53).map (·.size) = some 64 := by kernel_rfl
theorem info5 : (Tryd.prog.info? 5).map (·.size) = some 1 := by kernel_rfl

theorem len_pz (k : Nat) (ws : List Nat) (i : Nat) (h : ws.length = 7) (hi : i ≤ 7) : (bv (pre k ws i) ++ zs (60 - 8 * i)).length = 64 := by
  rw [List.length_append, bv_len, pre_len k ws i (by omega)]
  simp [zs]
  omega
theorem body_pre (k : Nat) (ws : List Nat) (h : ws.length = 7) : pre k ws 7 = body k ws := by
  unfold pre body
  rw [List.take_of_length_le (by omega)]
theorem body_len (k : Nat) (ws : List Nat) (h : ws.length = 7) : (body k ws).length = 60 := by
  rw [← body_pre k ws h, pre_len k ws 7 (by omega)]
theorem frame_len (k : Nat) (ws : List Nat) (h : ws.length = 7) : (frame k ws).length = 64 := by
  unfold frame; rw [List.length_append, body_len k ws h, le_len]
theorem body_oct (k : Nat) (ws : List Nat) (hk : k < 256) : Oct (body k ws) := by
  intro x hx
  unfold body at hx
  rw [List.mem_append, List.mem_flatMap] at hx
  rcases hx with hx | ⟨y, _, hx⟩
  · simp at hx; omega
  · exact le_oct _ _ x hx
theorem frame_oct (k : Nat) (ws : List Nat) (hk : k < 256) : Oct (frame k ws) := by
  intro x hx
  unfold frame at hx
  rw [List.mem_append] at hx
  rcases hx with hx | hx
  · exact body_oct k ws hk x hx
  · exact le_oct _ _ x hx
/-- bytes that stand at the beginning of a block. -/
theorem bs_row (w : World) (b : Nat) (t : TypeId) (xs : List Nat) (R : List Value) (h : w.heap[b]? = some (.cells (bv xs ++ R).toArray t (0, 0))) : Bs w b 0 xs := by
  intro i hi
  rw [cell_of_row w b _ _ t _ h, List.getElem?_toArray, Nat.zero_add, List.getElem?_append_left (by rw [bv_len]; exact hi)]
  simp [bv, hi]
/-- a word of seven, by its place. -/
theorem index7 (a : Array Value) (i : Nat) (v : Value) (w : World) (hi : i < 7) (hv : a[i]? = some v) : (Instr.index 38 (.agg a) (.int .i64 (i : Int))).run Tryd.prog w = .ok v w := by
  have u29 := Tryd.underlying38
  have a28 := Tryd.isAgg22
  have z28 := Tryd.sizeOf22
  simp [Instr.index, asIntOf, run_underlying u29, part, a28, z28, hv, hi, Sem.run_bind, Result.andThen]
theorem new_cells (wa : World) (xs : List Nat) (t : TypeId) (j : Nat) (v : Value) (h : (bv xs)[j]? = some v) : (wa.alloc (.cells (bv xs).toArray t)).cell? ((⟨wa.heap.size, 0, none⟩ : Addr).add j) = some v := by
  rw [Addr.add_mid, World.cell?_alloc_at _ _ _ _ rfl, Nat.zero_add]
  simpa using h
set_option maxHeartbeats 1000000 in
set_option maxRecDepth 100000 in
theorem pack_any (k w0 w1 w2 w3 w4 w5 w6 : Nat) (w : World) (hL : Laid w) (hk : k < 256)
    (l0 : w0 < 18446744073709551616) (l1 : w1 < 18446744073709551616) (l2 : w2 < 18446744073709551616) (l3 : w3 < 18446744073709551616) (l4 : w4 < 18446744073709551616) (l5 : w5 < 18446744073709551616) (l6 : w6 < 18446744073709551616) :
    Calls Tryd.prog 20 #[fv k w0 w1 w2 w3 w4 w5 w6] w fun e w' => e = .returned (.agg (bv (frame k [w0, w1, w2, w3, w4, w5, w6])).toArray) ∧ Below w.heap.size w w' := by
  have HL := hid hL
  clear hL
  unfold fv
  go_enter Tryd.func20, Tryd.ntmps20
  go_wp2_with fail
  refine (headOf_any _ _).mono ?_
  rintro e wa ⟨rfl, hb⟩
  obtain ⟨O0, hO0⟩ : ∃ O, Obj.cells #[.int .u8 (k : Nat), .int .u64 (w0 : Nat), .int .u64 (w1 : Nat), .int .u64 (w2 : Nat), .int .u64 (w3 : Nat), .int .u64 (w4 : Nat), .int .u64 (w5 : Nat), .int .u64 (w6 : Nat)] 40 = O := ⟨_, rfl⟩
  obtain ⟨O1, hO1⟩ : ∃ O, Obj.cells (zs 64).toArray 53 = O := ⟨_, rfl⟩
  have hb' : Below (w.heap.size + 3) (((w.alloc O0).alloc O1).alloc O1) wa := by
    rw [← hO0, ← hO1]
    have := hb.mono (show w.heap.size + 3 ≤ _ by simp)
    exact this
  have K0 : wa.heap[w.heap.size]? = some O0 := by
    rw [blk_to hb' (by omega), heap_alloc_old _ _ (by simp; omega), heap_alloc_old _ _ (by simp), heap_alloc_new]
  have K1 : wa.heap[w.heap.size + 1]? = some O1 := by
    rw [blk_to hb' (by omega), heap_alloc_old _ _ (by simp)]
    exact heap_alloc2_new w O0 O1
  have K2 : wa.heap[w.heap.size + 2]? = some O1 := by
    rw [blk_to hb' (by omega)]
    have := heap_alloc2_new (w.alloc O0) O1 O1
    simpa using this
  have KB : Below w.heap.size w wa := by
    have h1 : Below w.heap.size w (((w.alloc O0).alloc O1).alloc O1) := (((Below.refl w.heap.size w).alloc (Nat.le_refl _) _).alloc (by simp) _).alloc (by simp; omega) _
    exact h1.trans (hb'.mono (by omega))
  have hz : w.heap.size + 3 ≤ wa.heap.size := by have := hb'.size; simp at this; omega
  clear hb hb'
  have HK0 := hid K0
  have HK1 := hid K1
  have HK2 := hid K2
  have HKB := hid KB
  have HO0 := hid hO0
  have HO1 := hid hO1
  clear K0 K1 K2 KB hO0 hO1
  go_wp2
  go_region_law (refine step_copy_splice (by rfl) (.tmp 10) (.tmp 11) 31 31 (by rfl) 5 Tryd.underlying31 info5 (some ⟨w.heap.size + 2, 0, none⟩) (some ⟨wa.heap.size, 0, none⟩) 64 64 4 4 (by rfl) (by rfl) (w.heap.size + 2) 0 (zs 64) 53 (by first | (rw [heap_alloc_old _ _ (by omega), HK2.out, HO1.out]) | (show (wa.alloc _).heap[w.heap.size + 2]? = _; rw [heap_alloc_old _ _ (by omega), HK2.out, HO1.out])) (bv [66, 70, k, 0]) (by rfl) (fun _ => ⟨rfl, _, rfl, fun j v hj => new_cells wa [66, 70, k, 0] 94 j v hj⟩) (by simp [bv_len, zs]) (bv_one _) (w.heap.size + 2) wa (by exact ((Below.refl _ wa).alloc (by omega) _).drew) (by omega) ?_; intro wb hgb hbb)
  all_goals
    have hg2 : wb.heap[w.heap.size + 2]? = some (.cells (bv (pre k [w0, w1, w2, w3, w4, w5, w6] 0) ++ zs 60).toArray 53 (0, 0)) := hgb
    have hg1 : wb.heap[w.heap.size + 1]? = some (.cells (zs 64).toArray 53 (0, 0)) := by rw [blk_to hbb (by omega), HK1.out, ← HO1.out]
    have hg0 : wb.heap[w.heap.size]? = some (.cells #[.int .u8 (k : Nat), .int .u64 (w0 : Nat), .int .u64 (w1 : Nat), .int .u64 (w2 : Nat), .int .u64 (w3 : Nat), .int .u64 (w4 : Nat), .int .u64 (w5 : Nat), .int .u64 (w6 : Nat)] 40 (0, 0)) := by rw [blk_to hbb (by omega), HK0.out, ← HO0.out]
    have hkb : Below w.heap.size w wb := HKB.out.trans (hbb.mono (by omega))
    have hsz : w.heap.size + 3 ≤ wb.heap.size := by have := hbb.size; omega
    have HLb := hid (laid_to HL.out hkb)
    have HG2 := hid hg2
    have HG1 := hid hg1
    have HKb := hid hkb
    have q1 : wb.cell? ⟨w.heap.size, 1, none⟩ = some (.int .u64 (w0 : Nat)) := by rw [cell_of_row wb _ 1 _ _ _ hg0]; rfl
    have q2 : wb.cell? ⟨w.heap.size, 2, none⟩ = some (.int .u64 (w1 : Nat)) := by rw [cell_of_row wb _ 2 _ _ _ hg0]; rfl
    have q3 : wb.cell? ⟨w.heap.size, 3, none⟩ = some (.int .u64 (w2 : Nat)) := by rw [cell_of_row wb _ 3 _ _ _ hg0]; rfl
    have q4 : wb.cell? ⟨w.heap.size, 4, none⟩ = some (.int .u64 (w3 : Nat)) := by rw [cell_of_row wb _ 4 _ _ _ hg0]; rfl
    have q5 : wb.cell? ⟨w.heap.size, 5, none⟩ = some (.int .u64 (w4 : Nat)) := by rw [cell_of_row wb _ 5 _ _ _ hg0]; rfl
    have q6 : wb.cell? ⟨w.heap.size, 6, none⟩ = some (.int .u64 (w5 : Nat)) := by rw [cell_of_row wb _ 6 _ _ _ hg0]; rfl
    have q7 : wb.cell? ⟨w.heap.size, 7, none⟩ = some (.int .u64 (w6 : Nat)) := by rw [cell_of_row wb _ 7 _ _ _ hg0]; rfl
    clear hg0 hg1 hg2 hkb hgb hbb HK0 HK1 HK2 HKB HO0 HO1 HL hz
    go_wp2
    go_loopw [5, 6, 15] (fun _ _ iv wr => ∃ i : Nat, i ≤ 7 ∧ iv = .int .i64 i ∧ wr = wb.setRow (w.heap.size + 2) (bv (pre k [w0, w1, w2, w3, w4, w5, w6] i) ++ zs (60 - 8 * i)).toArray) (fun _ _ iv _ => 7 - (RowKit.intOf iv).toNat)
    case atStart => exact ⟨0, by omega, rfl, (setRow_self wb _ _ 53 (0, 0) HG2.out).symm⟩
    case round =>
      obtain ⟨i, hi, rfl, hwr⟩ := hrel
      have hrow : wr.heap[w.heap.size + 2]? = some (.cells (bv (pre k [w0, w1, w2, w3, w4, w5, w6] i) ++ zs (60 - 8 * i)).toArray 53 (0, 0)) := by rw [hwr]; exact setRow_heap wb _ _ _ 53 _ HG2.out
      have HROW := hid hrow
      have HWR := hid hwr
      clear hrow hwr
      by_cases h7 : i = 7
      · subst h7
        have HL9 := hid (show Laid wr by
          rw [HWR.out]
          intro j hj
          have h0 := HLb.out j hj
          rw [cell_setRow_other _ _ _ _ (by show 0 ≠ w.heap.size + 2; omega)]
          exact h0)
        have HB9 := hid (bs_row wr _ 53 (body k [w0, w1, w2, w3, w4, w5, w6]) (zs 4) (by rw [← body_pre k _ rfl]; exact HROW.out))
        have hlen := body_len k [w0, w1, w2, w3, w4, w5, w6] rfl
        obtain ⟨S, hS⟩ : ∃ S, crc (body k [w0, w1, w2, w3, w4, w5, w6]) = S := ⟨_, rfl⟩
        have lS : S < 4294967296 := by rw [← hS]; exact crc_lt _
        have C1 := hid (show ∀ cap : Nat, Calls Tryd.prog 47 #[.slice (some ⟨w.heap.size + 1 + 1, 0, none⟩) 60 cap] wr.drew fun e w' => e = .returned (.int .u32 (S : Nat)) ∧ w' = wr.drew from by
          intro cap
          have := wsum_some (body k [w0, w1, w2, w3, w4, w5, w6]) (w.heap.size + 2) 0 cap wr.drew (by rw [hlen]; decide) (body_oct _ _ hk) HB9.out HL9.out
          rw [hlen, hS] at this
          exact this)
        have C2 := hid (show ∀ cap : Nat, Calls Tryd.prog 46 #[.slice (some ⟨w.heap.size + 1 + 1, 60, none⟩) 4 cap, .int .u64 (S : Nat)] wr.drew fun e w' => e = .returned (.tuple #[]) ∧ w' = wr.drew.setRow (w.heap.size + 2) (bv (frame k [w0, w1, w2, w3, w4, w5, w6])).toArray from by
          intro cap
          refine (putLowest_any _ 53 (w.heap.size + 2) 60 4 cap S wr.drew HROW.out (by rw [len_pz _ _ _ rfl (by decide)]; decide) (by decide) (by omega)).mono ?_
          rintro e w' ⟨rfl, rfl⟩
          refine ⟨rfl, ?_⟩
          congr 2
          rw [body_pre k _ rfl]
          have := splice_at (bv (body k [w0, w1, w2, w3, w4, w5, w6])) (zs 4) (bv (le 4 S)) (by simp [bv_len, le_len, zs])
          rw [bv_len, hlen] at this
          rw [this]
          unfold frame
          rw [hS, bv_append]
          simp [bv_len, le_len, zs])
        have eS := hid (show IntKind.u64.wrap (S : Int) = (S : Int) by rw [IntKind.wrap_u64]; omega)
        clear HL9 HB9 hlen
        go_wp2
        go_region_held3 (fun w' => w'.Alike wr ∨ True) (exact Or.inr trivial)
          (first | (go_at_call 47; refine (C1.out _).mono ?_; rintro e wc ⟨rfl, rfl⟩) | (go_at_call 46; rw [eS.out]; refine (C2.out _).mono ?_; rintro e wc ⟨rfl, rfl⟩))
        have HR1 := hid (show (wr.drew.setRow (w.heap.size + 2) (bv (frame k [w0, w1, w2, w3, w4, w5, w6])).toArray).heap[w.heap.size + 1]? = some (.cells (zs 64).toArray 53 (0, 0)) by
          rw [setRow_other _ _ _ _ (by omega), heap_drew, HWR.out, setRow_other _ _ _ _ (by omega)]
          exact HG1.out)
        have HR2 := hid (show (wr.drew.setRow (w.heap.size + 2) (bv (frame k [w0, w1, w2, w3, w4, w5, w6])).toArray).heap[w.heap.size + 2]? = some (.cells (bv (frame k [w0, w1, w2, w3, w4, w5, w6])).toArray 53 (0, 0)) from
          setRow_heap _ _ _ _ 53 (0, 0) (by rw [heap_drew]; exact HROW.out))
        have HB9 := hid (show Below w.heap.size w (wr.drew.setRow (w.heap.size + 2) (bv (frame k [w0, w1, w2, w3, w4, w5, w6])).toArray) from
          below_setRow (Below.drew (by rw [HWR.out]; exact below_setRow HKb.out (by omega) _)) (by omega) _)
        obtain ⟨W9, hW9⟩ : ∃ W, wr.drew.setRow (w.heap.size + 2) (bv (frame k [w0, w1, w2, w3, w4, w5, w6])).toArray = W := ⟨_, rfl⟩
        rw [hW9] at HR1 HR2 HB9 ⊢
        obtain ⟨F, hF⟩ : ∃ F, (bv (frame k [w0, w1, w2, w3, w4, w5, w6])).toArray = F := ⟨_, rfl⟩
        have F64 : F.size = 64 := by rw [← hF]; simp [bv_len, frame_len]
        have F1 : F.all (·.oneCell') = true := by rw [← hF]; exact all_oneCell_toArray (bv_one _)
        rw [hF] at HR2
        have HF := hid hF
        clear hW9 hF HROW HWR C1 C2 eS HG1 HG2 HLb HKb
        have i64 : (Tryd.prog.info? 53).map (·.size) = some F.size := by rw [F64]; exact info32
        go_wp2_with (first | (refine wpList_load_row (by rfl) 53 (.tmp 3) (by rfl) (w.heap.size + 2) (by rfl) 53 F (0, 0) _ HR2.out Tryd.underlying53 rfl i64 ?_) | (refine wpList_store_row (by rfl) 53 (.tmp 2) (.tmp 32) (by rfl) (w.heap.size + 1) F (by rfl) (by rfl) 53 (zs 64).toArray HR1.out i64 (by rw [F64]; simp [zs]) F1 ?_))
        refine bodyPost_ret (v := .agg F) (results_cell_row (fn := Tryd.f20) Tryd.results20 _ _ (w.heap.size + 1) 53 F (0, 0) _ (by rfl) (setRow_heap _ _ _ _ 53 (0, 0) HR1.out) Tryd.underlying53 rfl i64) rfl ⟨by rw [HF.out], below_setRow HB9.out (by omega) _⟩
      · have : i = 0 ∨ i = 1 ∨ i = 2 ∨ i = 3 ∨ i = 4 ∨ i = 5 ∨ i = 6 := by omega
        clear h7 hi
        rcases this with rfl | rfl | rfl | rfl | rfl | rfl | rfl
        · have ix : (Instr.index 38 (.agg #[.int .u64 (w0 : Nat), .int .u64 (w1 : Nat), .int .u64 (w2 : Nat), .int .u64 (w3 : Nat), .int .u64 (w4 : Nat), .int .u64 (w5 : Nat), .int .u64 (w6 : Nat)]) (.int .i64 0)).run Tryd.prog wr = .ok (.int .u64 (w0 : Nat)) wr := index7 _ 0 _ wr (by decide) rfl
          go_wp2_with fail
          refine (putLowest_any _ 53 (w.heap.size + 2) 4 8 60 w0 wr HROW.out (by rw [len_pz _ _ _ rfl (by decide)]; decide) (by decide) l0).mono ?_
          rintro e wc ⟨rfl, rfl⟩
          go_wp2
          go_roundw
          case rel => exact ⟨1, by omega, by go_num, by rw [HWR.out, setRow_setRow]; exact congrArg (fun l => wb.setRow (w.heap.size + 2) (List.toArray l)) (pre_step k [w0, w1, w2, w3, w4, w5, w6] 0 (by simp) _ (by decide))⟩
          case measure => simp [RowKit.intOf]
        · have ix : (Instr.index 38 (.agg #[.int .u64 (w0 : Nat), .int .u64 (w1 : Nat), .int .u64 (w2 : Nat), .int .u64 (w3 : Nat), .int .u64 (w4 : Nat), .int .u64 (w5 : Nat), .int .u64 (w6 : Nat)]) (.int .i64 1)).run Tryd.prog wr = .ok (.int .u64 (w1 : Nat)) wr := index7 _ 1 _ wr (by decide) rfl
          go_wp2_with fail
          refine (putLowest_any _ 53 (w.heap.size + 2) 12 8 52 w1 wr HROW.out (by rw [len_pz _ _ _ rfl (by decide)]; decide) (by decide) l1).mono ?_
          rintro e wc ⟨rfl, rfl⟩
          go_wp2
          go_roundw
          case rel => exact ⟨2, by omega, by go_num, by rw [HWR.out, setRow_setRow]; exact congrArg (fun l => wb.setRow (w.heap.size + 2) (List.toArray l)) (pre_step k [w0, w1, w2, w3, w4, w5, w6] 1 (by simp) _ (by decide))⟩
          case measure => simp [RowKit.intOf]
        · have ix : (Instr.index 38 (.agg #[.int .u64 (w0 : Nat), .int .u64 (w1 : Nat), .int .u64 (w2 : Nat), .int .u64 (w3 : Nat), .int .u64 (w4 : Nat), .int .u64 (w5 : Nat), .int .u64 (w6 : Nat)]) (.int .i64 2)).run Tryd.prog wr = .ok (.int .u64 (w2 : Nat)) wr := index7 _ 2 _ wr (by decide) rfl
          go_wp2_with fail
          refine (putLowest_any _ 53 (w.heap.size + 2) 20 8 44 w2 wr HROW.out (by rw [len_pz _ _ _ rfl (by decide)]; decide) (by decide) l2).mono ?_
          rintro e wc ⟨rfl, rfl⟩
          go_wp2
          go_roundw
          case rel => exact ⟨3, by omega, by go_num, by rw [HWR.out, setRow_setRow]; exact congrArg (fun l => wb.setRow (w.heap.size + 2) (List.toArray l)) (pre_step k [w0, w1, w2, w3, w4, w5, w6] 2 (by simp) _ (by decide))⟩
          case measure => simp [RowKit.intOf]
        · have ix : (Instr.index 38 (.agg #[.int .u64 (w0 : Nat), .int .u64 (w1 : Nat), .int .u64 (w2 : Nat), .int .u64 (w3 : Nat), .int .u64 (w4 : Nat), .int .u64 (w5 : Nat), .int .u64 (w6 : Nat)]) (.int .i64 3)).run Tryd.prog wr = .ok (.int .u64 (w3 : Nat)) wr := index7 _ 3 _ wr (by decide) rfl
          go_wp2_with fail
          refine (putLowest_any _ 53 (w.heap.size + 2) 28 8 36 w3 wr HROW.out (by rw [len_pz _ _ _ rfl (by decide)]; decide) (by decide) l3).mono ?_
          rintro e wc ⟨rfl, rfl⟩
          go_wp2
          go_roundw
          case rel => exact ⟨4, by omega, by go_num, by rw [HWR.out, setRow_setRow]; exact congrArg (fun l => wb.setRow (w.heap.size + 2) (List.toArray l)) (pre_step k [w0, w1, w2, w3, w4, w5, w6] 3 (by simp) _ (by decide))⟩
          case measure => simp [RowKit.intOf]
        · have ix : (Instr.index 38 (.agg #[.int .u64 (w0 : Nat), .int .u64 (w1 : Nat), .int .u64 (w2 : Nat), .int .u64 (w3 : Nat), .int .u64 (w4 : Nat), .int .u64 (w5 : Nat), .int .u64 (w6 : Nat)]) (.int .i64 4)).run Tryd.prog wr = .ok (.int .u64 (w4 : Nat)) wr := index7 _ 4 _ wr (by decide) rfl
          go_wp2_with fail
          refine (putLowest_any _ 53 (w.heap.size + 2) 36 8 28 w4 wr HROW.out (by rw [len_pz _ _ _ rfl (by decide)]; decide) (by decide) l4).mono ?_
          rintro e wc ⟨rfl, rfl⟩
          go_wp2
          go_roundw
          case rel => exact ⟨5, by omega, by go_num, by rw [HWR.out, setRow_setRow]; exact congrArg (fun l => wb.setRow (w.heap.size + 2) (List.toArray l)) (pre_step k [w0, w1, w2, w3, w4, w5, w6] 4 (by simp) _ (by decide))⟩
          case measure => simp [RowKit.intOf]
        · have ix : (Instr.index 38 (.agg #[.int .u64 (w0 : Nat), .int .u64 (w1 : Nat), .int .u64 (w2 : Nat), .int .u64 (w3 : Nat), .int .u64 (w4 : Nat), .int .u64 (w5 : Nat), .int .u64 (w6 : Nat)]) (.int .i64 5)).run Tryd.prog wr = .ok (.int .u64 (w5 : Nat)) wr := index7 _ 5 _ wr (by decide) rfl
          go_wp2_with fail
          refine (putLowest_any _ 53 (w.heap.size + 2) 44 8 20 w5 wr HROW.out (by rw [len_pz _ _ _ rfl (by decide)]; decide) (by decide) l5).mono ?_
          rintro e wc ⟨rfl, rfl⟩
          go_wp2
          go_roundw
          case rel => exact ⟨6, by omega, by go_num, by rw [HWR.out, setRow_setRow]; exact congrArg (fun l => wb.setRow (w.heap.size + 2) (List.toArray l)) (pre_step k [w0, w1, w2, w3, w4, w5, w6] 5 (by simp) _ (by decide))⟩
          case measure => simp [RowKit.intOf]
        · have ix : (Instr.index 38 (.agg #[.int .u64 (w0 : Nat), .int .u64 (w1 : Nat), .int .u64 (w2 : Nat), .int .u64 (w3 : Nat), .int .u64 (w4 : Nat), .int .u64 (w5 : Nat), .int .u64 (w6 : Nat)]) (.int .i64 6)).run Tryd.prog wr = .ok (.int .u64 (w6 : Nat)) wr := index7 _ 6 _ wr (by decide) rfl
          go_wp2_with fail
          refine (putLowest_any _ 53 (w.heap.size + 2) 52 8 12 w6 wr HROW.out (by rw [len_pz _ _ _ rfl (by decide)]; decide) (by decide) l6).mono ?_
          rintro e wc ⟨rfl, rfl⟩
          go_wp2
          go_roundw
          case rel => exact ⟨7, by omega, by go_num, by rw [HWR.out, setRow_setRow]; exact congrArg (fun l => wb.setRow (w.heap.size + 2) (List.toArray l)) (pre_step k [w0, w1, w2, w3, w4, w5, w6] 6 (by simp) _ (by decide))⟩
          case measure => simp [RowKit.intOf]
end Go.Proofs.YtacdjioieclggaaDoor.Wi
