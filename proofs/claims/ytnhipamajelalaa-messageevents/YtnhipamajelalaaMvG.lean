/-
  The document's eventValue, withEvent, told.
-/
import Derived.Test.YtnhipamajelalaaMvF
import Derived.Test.YtnhipamajelalaaMgH
namespace Go.Proofs.Ytnhipamajelalaa
open Go.RowKit Go.Maps Go.Deep Go.Lib
set_option linter.unusedVariables false
set_option linter.unusedSimpArgs false

/-- a tag of an event's fields. -/
def EvTag (t : Int) : Prop := t = 34 ∨ t = 11 ∨ t = 41 ∨ t = 37 ∨ t = 1 ∨ t = 38 ∨ t = 210 ∨ t = 54 ∨ t = 40 ∨ t = 44 ∨ t = 378 ∨ t = 103
theorem ev_tag {k t : Int} (h1 : 1 ≤ k) (h5 : k ≤ 5) (h : t ∈ tagsL (64 + k)) : EvTag t := by
  obtain rfl | rfl | rfl | rfl | rfl : k = 1 ∨ k = 2 ∨ k = 3 ∨ k = 4 ∨ k = 5 := by omega
  all_goals simp [tagsL] at h
  all_goals unfold EvTag
  all_goals omega
def Evt.set (x : Evt) (t n : Int) : Evt :=
  if t = 34 then { x with sq := n } else
  if t = 11 then { x with id := n } else
  if t = 41 then { x with tg := n } else
  if t = 37 then { x with ot := n } else
  if t = 1 then { x with me := u32 n } else
  if t = 38 then { x with qt := n } else
  if t = 210 then { x with pe := n } else
  if t = 54 then { x with si := s64 n } else
  if t = 40 then { x with ty := s64 n } else
  if t = 44 then { x with pr := s64 n } else
  if t = 378 then { x with re := s64 n } else
  if t = 103 then { x with co := s64 n } else x

def Evt.okV (x : Evt) (t : Int) : Bool := if t = 54 then decide (0 ≤ x.si) else if t = 40 then decide (0 ≤ x.ty) else if t = 44 then decide (0 ≤ x.pr) else if t = 378 then decide (0 ≤ x.re) else if t = 103 then decide (0 ≤ x.co) else true
set_option maxHeartbeats 2000000 in
set_option maxRecDepth 100000 in
theorem valueE_any (x : Evt) (hx : x.Ok) (t : Int) (ht : EvTag t) (w : World) : Calls Try.prog 37 #[.agg x.v, .int .i64 t] w fun e w' => e = .returned (.tuple #[.int .u64 (x.f t), .bool (x.okV t)]) ∧ Below w.heap.size w w' := by
  unfold EvTag at ht
  unfold Evt.v eV
  obtain ⟨m0, m1⟩ := hx.me
  clear hx
  rcases ht with rfl | rfl | rfl | rfl | rfl | rfl | rfl | rfl | rfl | rfl | rfl | rfl
  · have e : x.okV 34 = true := by simp [Evt.okV]
    rw [e]
    clear e
    go_enter Try.func37, Try.ntmps37
    go_wp2
    go_ret2
    exact ⟨rfl, ball _ _⟩
  · have e : x.okV 11 = true := by simp [Evt.okV]
    rw [e]
    clear e
    go_enter Try.func37, Try.ntmps37
    go_wp2
    go_ret2
    exact ⟨rfl, ball _ _⟩
  · have e : x.okV 41 = true := by simp [Evt.okV]
    rw [e]
    clear e
    go_enter Try.func37, Try.ntmps37
    go_wp2
    go_ret2
    exact ⟨rfl, ball _ _⟩
  · have e : x.okV 37 = true := by simp [Evt.okV]
    rw [e]
    clear e
    go_enter Try.func37, Try.ntmps37
    go_wp2
    go_ret2
    exact ⟨rfl, ball _ _⟩
  · have e : x.okV 1 = true := by simp [Evt.okV]
    rw [e]
    clear e
    go_enter Try.func37, Try.ntmps37
    go_wp2
    go_ret2
    exact ⟨rfl, ball _ _⟩
  · have e : x.okV 38 = true := by simp [Evt.okV]
    rw [e]
    clear e
    go_enter Try.func37, Try.ntmps37
    go_wp2
    go_ret2
    exact ⟨rfl, ball _ _⟩
  · have e : x.okV 210 = true := by simp [Evt.okV]
    rw [e]
    clear e
    go_enter Try.func37, Try.ntmps37
    go_wp2
    go_ret2
    exact ⟨rfl, ball _ _⟩
  · by_cases h0 : 0 ≤ x.si
    · have e : x.okV 54 = true := by simp [Evt.okV, h0]
      rw [e]
      clear e
      go_enter Try.func37, Try.ntmps37
      go_wp2
      go_ret2
      exact ⟨rfl, ball _ _⟩
    · have e : x.okV 54 = false := by simp [Evt.okV, h0]
      rw [e]
      clear e
      go_enter Try.func37, Try.ntmps37
      go_wp2
      go_ret2
      exact ⟨rfl, ball _ _⟩
  · by_cases h0 : 0 ≤ x.ty
    · have e : x.okV 40 = true := by simp [Evt.okV, h0]
      rw [e]
      clear e
      go_enter Try.func37, Try.ntmps37
      go_wp2
      go_ret2
      exact ⟨rfl, ball _ _⟩
    · have e : x.okV 40 = false := by simp [Evt.okV, h0]
      rw [e]
      clear e
      go_enter Try.func37, Try.ntmps37
      go_wp2
      go_ret2
      exact ⟨rfl, ball _ _⟩
  · by_cases h0 : 0 ≤ x.pr
    · have e : x.okV 44 = true := by simp [Evt.okV, h0]
      rw [e]
      clear e
      go_enter Try.func37, Try.ntmps37
      go_wp2
      go_ret2
      exact ⟨rfl, ball _ _⟩
    · have e : x.okV 44 = false := by simp [Evt.okV, h0]
      rw [e]
      clear e
      go_enter Try.func37, Try.ntmps37
      go_wp2
      go_ret2
      exact ⟨rfl, ball _ _⟩
  · by_cases h0 : 0 ≤ x.re
    · have e : x.okV 378 = true := by simp [Evt.okV, h0]
      rw [e]
      clear e
      go_enter Try.func37, Try.ntmps37
      go_wp2
      go_ret2
      exact ⟨rfl, ball _ _⟩
    · have e : x.okV 378 = false := by simp [Evt.okV, h0]
      rw [e]
      clear e
      go_enter Try.func37, Try.ntmps37
      go_wp2
      go_ret2
      exact ⟨rfl, ball _ _⟩
  · by_cases h0 : 0 ≤ x.co
    · have e : x.okV 103 = true := by simp [Evt.okV, h0]
      rw [e]
      clear e
      go_enter Try.func37, Try.ntmps37
      go_wp2
      go_ret2
      exact ⟨rfl, ball _ _⟩
    · have e : x.okV 103 = false := by simp [Evt.okV, h0]
      rw [e]
      clear e
      go_enter Try.func37, Try.ntmps37
      go_wp2
      go_ret2
      exact ⟨rfl, ball _ _⟩

set_option maxHeartbeats 2000000 in
set_option maxRecDepth 100000 in
theorem withE_any (x : Evt) (t n : Int) (ht : EvTag t) (w : World) : Calls Try.prog 31 #[.agg x.v, .int .i64 t, .int .u64 n] w fun e w' => e = .returned (.agg (x.set t n).v) ∧ Below w.heap.size w w' := by
  unfold EvTag at ht
  unfold Evt.v eV
  rcases ht with rfl | rfl | rfl | rfl | rfl | rfl | rfl | rfl | rfl | rfl | rfl | rfl
  · go_enter Try.func31, Try.ntmps31
    go_wp2
    exact bodyPost_ret (results_cell_row (fn := Try.f31) Try.results31 _ _ (w.heap.size + 1) 39 (x.set 34 n).v (0, 0) _ (by rfl) (heap2 _ _ _) Try.underlying39 rfl info39) rfl ⟨rfl, btr (ball _ _) (ball _ _)⟩
  · go_enter Try.func31, Try.ntmps31
    go_wp2
    exact bodyPost_ret (results_cell_row (fn := Try.f31) Try.results31 _ _ (w.heap.size + 1) 39 (x.set 11 n).v (0, 0) _ (by rfl) (heap2 _ _ _) Try.underlying39 rfl info39) rfl ⟨rfl, btr (ball _ _) (ball _ _)⟩
  · go_enter Try.func31, Try.ntmps31
    go_wp2
    exact bodyPost_ret (results_cell_row (fn := Try.f31) Try.results31 _ _ (w.heap.size + 1) 39 (x.set 41 n).v (0, 0) _ (by rfl) (heap2 _ _ _) Try.underlying39 rfl info39) rfl ⟨rfl, btr (ball _ _) (ball _ _)⟩
  · go_enter Try.func31, Try.ntmps31
    go_wp2
    exact bodyPost_ret (results_cell_row (fn := Try.f31) Try.results31 _ _ (w.heap.size + 1) 39 (x.set 37 n).v (0, 0) _ (by rfl) (heap2 _ _ _) Try.underlying39 rfl info39) rfl ⟨rfl, btr (ball _ _) (ball _ _)⟩
  · go_enter Try.func31, Try.ntmps31
    go_wp2
    exact bodyPost_ret (results_cell_row (fn := Try.f31) Try.results31 _ _ (w.heap.size + 1) 39 (x.set 1 n).v (0, 0) _ (by rfl) (heap2 _ _ _) Try.underlying39 rfl info39) rfl ⟨rfl, btr (ball _ _) (ball _ _)⟩
  · go_enter Try.func31, Try.ntmps31
    go_wp2
    exact bodyPost_ret (results_cell_row (fn := Try.f31) Try.results31 _ _ (w.heap.size + 1) 39 (x.set 38 n).v (0, 0) _ (by rfl) (heap2 _ _ _) Try.underlying39 rfl info39) rfl ⟨rfl, btr (ball _ _) (ball _ _)⟩
  · go_enter Try.func31, Try.ntmps31
    go_wp2
    exact bodyPost_ret (results_cell_row (fn := Try.f31) Try.results31 _ _ (w.heap.size + 1) 39 (x.set 210 n).v (0, 0) _ (by rfl) (heap2 _ _ _) Try.underlying39 rfl info39) rfl ⟨rfl, btr (ball _ _) (ball _ _)⟩
  · go_enter Try.func31, Try.ntmps31
    go_wp2
    exact bodyPost_ret (results_cell_row (fn := Try.f31) Try.results31 _ _ (w.heap.size + 1) 39 (x.set 54 n).v (0, 0) _ (by rfl) (heap2 _ _ _) Try.underlying39 rfl info39) rfl ⟨rfl, btr (ball _ _) (ball _ _)⟩
  · go_enter Try.func31, Try.ntmps31
    go_wp2
    exact bodyPost_ret (results_cell_row (fn := Try.f31) Try.results31 _ _ (w.heap.size + 1) 39 (x.set 40 n).v (0, 0) _ (by rfl) (heap2 _ _ _) Try.underlying39 rfl info39) rfl ⟨rfl, btr (ball _ _) (ball _ _)⟩
  · go_enter Try.func31, Try.ntmps31
    go_wp2
    exact bodyPost_ret (results_cell_row (fn := Try.f31) Try.results31 _ _ (w.heap.size + 1) 39 (x.set 44 n).v (0, 0) _ (by rfl) (heap2 _ _ _) Try.underlying39 rfl info39) rfl ⟨rfl, btr (ball _ _) (ball _ _)⟩
  · go_enter Try.func31, Try.ntmps31
    go_wp2
    exact bodyPost_ret (results_cell_row (fn := Try.f31) Try.results31 _ _ (w.heap.size + 1) 39 (x.set 378 n).v (0, 0) _ (by rfl) (heap2 _ _ _) Try.underlying39 rfl info39) rfl ⟨rfl, btr (ball _ _) (ball _ _)⟩
  · go_enter Try.func31, Try.ntmps31
    go_wp2
    exact bodyPost_ret (results_cell_row (fn := Try.f31) Try.results31 _ _ (w.heap.size + 1) 39 (x.set 103 n).v (0, 0) _ (by rfl) (heap2 _ _ _) Try.underlying39 rfl info39) rfl ⟨rfl, btr (ball _ _) (ball _ _)⟩

set_option maxHeartbeats 1000000 in
set_option maxRecDepth 100000 in
theorem told_any (k : Int) (h1 : 1 ≤ k) (h5 : k ≤ 5) (w : World) : Calls Try.prog 28 #[.int .i64 k] w fun e w' => FldP (64 + k) w e w' := by
  obtain rfl | rfl | rfl | rfl | rfl : k = 1 ∨ k = 2 ∨ k = 3 ∨ k = 4 ∨ k = 5 := by omega
  · go_enter Try.func28, Try.ntmps28
    go_wp2
    go_ret
    exact ⟨some ⟨w.heap.size + 1 + 1 + 1 + 1 + 1, 0, none⟩, 8, rfl, sf_new 65 _ _ _ (tagsL 65) (by simp) rfl, btr (btr (btr (btr (btr (ball _ _) (ball _ _)) (ball _ _)) (ball _ _)) (ball _ _)) (ball _ _)⟩
  · go_enter Try.func28, Try.ntmps28
    go_wp2
    go_ret
    exact ⟨some ⟨w.heap.size + 1 + 1 + 1 + 1 + 1, 0, none⟩, 4, rfl, sf_new 66 _ _ _ (tagsL 66) (by simp) rfl, btr (btr (btr (btr (btr (ball _ _) (ball _ _)) (ball _ _)) (ball _ _)) (ball _ _)) (ball _ _)⟩
  · go_enter Try.func28, Try.ntmps28
    go_wp2
    go_ret
    exact ⟨some ⟨w.heap.size + 1 + 1 + 1 + 1 + 1, 0, none⟩, 6, rfl, sf_new 67 _ _ _ (tagsL 67) (by simp) rfl, btr (btr (btr (btr (btr (ball _ _) (ball _ _)) (ball _ _)) (ball _ _)) (ball _ _)) (ball _ _)⟩
  · go_enter Try.func28, Try.ntmps28
    go_wp2
    go_ret
    exact ⟨some ⟨w.heap.size + 1 + 1 + 1 + 1 + 1, 0, none⟩, 4, rfl, sf_new 68 _ _ _ (tagsL 68) (by simp) rfl, btr (btr (btr (btr (btr (ball _ _) (ball _ _)) (ball _ _)) (ball _ _)) (ball _ _)) (ball _ _)⟩
  · go_enter Try.func28, Try.ntmps28
    go_wp2
    go_ret
    exact ⟨some ⟨w.heap.size + 1 + 1 + 1 + 1 + 1, 0, none⟩, 4, rfl, sf_new 69 _ _ _ (tagsL 69) (by simp) rfl, btr (btr (btr (btr (btr (ball _ _) (ball _ _)) (ball _ _)) (ball _ _)) (ball _ _)) (ball _ _)⟩

theorem told_no (k : Int) (h : ¬ (1 ≤ k ∧ k ≤ 5)) (w : World) : Calls Try.prog 28 #[.int .i64 k] w fun e w' => e = .returned (.slice none 0 0) ∧ Below w.heap.size w w' := by
  have h1 : ¬ k = 1 := by omega
  have h2 : ¬ k = 2 := by omega
  have h3 : ¬ k = 3 := by omega
  have h4 : ¬ k = 4 := by omega
  have h5 : ¬ k = 5 := by omega
  clear h
  go_enter Try.func28, Try.ntmps28
  go_wp2
  go_ret
  exact ⟨rfl, btr (btr (btr (btr (ball _ _) (ball _ _)) (ball _ _)) (ball _ _)) (ball _ _)⟩
end Go.Proofs.Ytnhipamajelalaa
