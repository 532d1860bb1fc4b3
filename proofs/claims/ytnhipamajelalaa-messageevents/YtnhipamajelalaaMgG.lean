/-
  The document's name, bare, value, with.
-/
import Derived.Test.YtnhipamajelalaaMgF
namespace Go.Proofs.Ytnhipamajelalaa
open Go.RowKit Go.Maps Go.Deep Go.Lib
set_option linter.unusedVariables false
set_option linter.unusedSimpArgs false

/-- a tag of an input's fields. -/
def InTag (t : Int) : Prop := t = 11 ∨ t = 41 ∨ t = 1 ∨ t = 38 ∨ t = 210 ∨ t = 54 ∨ t = 40 ∨ t = 44 ∨ t = 9001
theorem in_tag {k t : Int} (h1 : 1 ≤ k) (h4 : k ≤ 4) (h : t ∈ tagsL k) : InTag t := by
  obtain rfl | rfl | rfl | rfl : k = 1 ∨ k = 2 ∨ k = 3 ∨ k = 4 := by omega
  all_goals simp [tagsL] at h
  all_goals unfold InTag
  all_goals omega
def Inp.set (x : Inp) (t n : Int) : Inp :=
  if t = 11 then { x with id := n } else
  if t = 41 then { x with tg := n } else
  if t = 1 then { x with me := u32 n } else
  if t = 38 then { x with qt := n } else
  if t = 210 then { x with pe := n } else
  if t = 54 then { x with si := s64 n } else
  if t = 40 then { x with ty := s64 n } else
  if t = 44 then { x with pr := s64 n } else
  if t = 9001 then { x with en := s64 n } else x

def Inp.okV (x : Inp) (t : Int) : Bool := if t = 54 then decide (0 ≤ x.si) else if t = 40 then decide (0 ≤ x.ty) else if t = 44 then decide (0 ≤ x.pr) else if t = 9001 then decide (0 ≤ x.en) else true
theorem name_any (x : Inp) (w : World) : Calls Try.prog 18 #[.agg x.v] w fun e w' => e = .returned (.int .i64 x.k) ∧ Below w.heap.size w w' := by
  unfold Inp.k Inp.v iV
  by_cases h2 : x.ki = 2
  · rw [if_pos h2, h2]
    go_enter Try.func18, Try.ntmps18
    go_wp2
    go_ret
    exact ⟨rfl, ball _ _⟩
  · rw [if_neg h2]
    by_cases h1 : x.ki = 1
    · by_cases c1 : 1 ≤ x.co
      · by_cases c3 : x.co ≤ 3
        · rw [if_pos ⟨h1, c1, c3⟩, h1]
          clear h2 h1
          go_enter Try.func18, Try.ntmps18
          go_wp2
          go_ret
          exact ⟨rfl, ball _ _⟩
        · rw [if_neg (fun h => c3 h.2.2), h1]
          clear h2 h1
          go_enter Try.func18, Try.ntmps18
          go_wp2
          go_ret
          exact ⟨rfl, ball _ _⟩
      · rw [if_neg (fun h => c1 h.2.1), h1]
        clear h2 h1
        go_enter Try.func18, Try.ntmps18
        go_wp2
        go_ret
        exact ⟨rfl, ball _ _⟩
    · rw [if_neg (fun h => h1 h.1)]
      go_enter Try.func18, Try.ntmps18
      go_wp2
      go_ret
      exact ⟨rfl, ball _ _⟩
def bareI (k : Int) : Inp := if k = 4 then ⟨2, 0, 0, 0, 0, 0, 0, 0, 0, 0, 0⟩ else ⟨1, k, 0, 0, 0, 0, 0, 0, 0, 0, 0⟩
theorem bare_any (k : Int) (w : World) : Calls Try.prog 23 #[.int .i64 k] w fun e w' => e = .returned (.agg (bareI k).v) ∧ Below w.heap.size w w' := by
  unfold bareI
  by_cases h : k = 4
  · rw [if_pos h, h]
    clear h
    go_enter Try.func23, Try.ntmps23
    go_wp2
    exact bodyPost_ret (results_cell_row (fn := Try.f23) Try.results23 _ _ w.heap.size 27 (iV 2 0 0 0 0 0 0 0 0 0 0) (0, 0) _ (by rfl) (heap_alloc_new _ _) Try.underlying27 rfl info27) rfl ⟨rfl, ball _ _⟩
  · rw [if_neg h]
    go_enter Try.func23, Try.ntmps23
    go_wp2
    exact bodyPost_ret (results_cell_row (fn := Try.f23) Try.results23 _ _ w.heap.size 27 (iV 1 k 0 0 0 0 0 0 0 0 0) (0, 0) _ (by rfl) (heap_alloc_new _ _) Try.underlying27 rfl info27) rfl ⟨rfl, ball _ _⟩
set_option maxHeartbeats 2000000 in
set_option maxRecDepth 100000 in
theorem value_any (x : Inp) (hx : x.Ok) (t : Int) (ht : InTag t) (w : World) : Calls Try.prog 35 #[.agg x.v, .int .i64 t] w fun e w' => e = .returned (.tuple #[.int .u64 (x.f t), .bool (x.okV t)]) ∧ Below w.heap.size w w' := by
  unfold InTag at ht
  unfold Inp.v iV
  obtain ⟨m0, m1⟩ := hx.me
  clear hx
  rcases ht with rfl | rfl | rfl | rfl | rfl | rfl | rfl | rfl | rfl
  · have e : x.okV 11 = true := by simp [Inp.okV]
    rw [e]
    clear e
    go_enter Try.func35, Try.ntmps35
    go_wp2
    go_ret2
    exact ⟨rfl, btr (ball _ _) (ball _ _)⟩
  · have e : x.okV 41 = true := by simp [Inp.okV]
    rw [e]
    clear e
    go_enter Try.func35, Try.ntmps35
    go_wp2
    go_ret2
    exact ⟨rfl, btr (ball _ _) (ball _ _)⟩
  · have e : x.okV 1 = true := by simp [Inp.okV]
    rw [e]
    clear e
    go_enter Try.func35, Try.ntmps35
    go_wp2
    go_ret2
    exact ⟨rfl, btr (ball _ _) (ball _ _)⟩
  · have e : x.okV 38 = true := by simp [Inp.okV]
    rw [e]
    clear e
    go_enter Try.func35, Try.ntmps35
    go_wp2
    go_ret2
    exact ⟨rfl, btr (ball _ _) (ball _ _)⟩
  · have e : x.okV 210 = true := by simp [Inp.okV]
    rw [e]
    clear e
    go_enter Try.func35, Try.ntmps35
    go_wp2
    go_ret2
    exact ⟨rfl, btr (ball _ _) (ball _ _)⟩
  · by_cases h0 : 0 ≤ x.si
    · have e : x.okV 54 = true := by simp [Inp.okV, h0]
      rw [e]
      clear e
      go_enter Try.func35, Try.ntmps35
      go_wp2
      go_ret2
      exact ⟨rfl, btr (ball _ _) (ball _ _)⟩
    · have e : x.okV 54 = false := by simp [Inp.okV, h0]
      rw [e]
      clear e
      go_enter Try.func35, Try.ntmps35
      go_wp2
      go_ret2
      exact ⟨rfl, btr (ball _ _) (ball _ _)⟩
  · by_cases h0 : 0 ≤ x.ty
    · have e : x.okV 40 = true := by simp [Inp.okV, h0]
      rw [e]
      clear e
      go_enter Try.func35, Try.ntmps35
      go_wp2
      go_ret2
      exact ⟨rfl, btr (ball _ _) (ball _ _)⟩
    · have e : x.okV 40 = false := by simp [Inp.okV, h0]
      rw [e]
      clear e
      go_enter Try.func35, Try.ntmps35
      go_wp2
      go_ret2
      exact ⟨rfl, btr (ball _ _) (ball _ _)⟩
  · by_cases h0 : 0 ≤ x.pr
    · have e : x.okV 44 = true := by simp [Inp.okV, h0]
      rw [e]
      clear e
      go_enter Try.func35, Try.ntmps35
      go_wp2
      go_ret2
      exact ⟨rfl, btr (ball _ _) (ball _ _)⟩
    · have e : x.okV 44 = false := by simp [Inp.okV, h0]
      rw [e]
      clear e
      go_enter Try.func35, Try.ntmps35
      go_wp2
      go_ret2
      exact ⟨rfl, btr (ball _ _) (ball _ _)⟩
  · by_cases h0 : 0 ≤ x.en
    · have e : x.okV 9001 = true := by simp [Inp.okV, h0]
      rw [e]
      clear e
      go_enter Try.func35, Try.ntmps35
      go_wp2
      go_ret2
      exact ⟨rfl, btr (ball _ _) (ball _ _)⟩
    · have e : x.okV 9001 = false := by simp [Inp.okV, h0]
      rw [e]
      clear e
      go_enter Try.func35, Try.ntmps35
      go_wp2
      go_ret2
      exact ⟨rfl, btr (ball _ _) (ball _ _)⟩

set_option maxHeartbeats 2000000 in
set_option maxRecDepth 100000 in
theorem with_any (x : Inp) (t n : Int) (ht : InTag t) (w : World) : Calls Try.prog 24 #[.agg x.v, .int .i64 t, .int .u64 n] w fun e w' => e = .returned (.agg (x.set t n).v) ∧ Below w.heap.size w w' := by
  unfold InTag at ht
  unfold Inp.v iV
  rcases ht with rfl | rfl | rfl | rfl | rfl | rfl | rfl | rfl | rfl
  · go_enter Try.func24, Try.ntmps24
    go_wp2
    exact bodyPost_ret (results_cell_row (fn := Try.f24) Try.results24 _ _ (w.heap.size + 1) 27 (x.set 11 n).v (0, 0) _ (by rfl) (heap2 _ _ _) Try.underlying27 rfl info27) rfl ⟨rfl, btr (ball _ _) (ball _ _)⟩
  · go_enter Try.func24, Try.ntmps24
    go_wp2
    exact bodyPost_ret (results_cell_row (fn := Try.f24) Try.results24 _ _ (w.heap.size + 1) 27 (x.set 41 n).v (0, 0) _ (by rfl) (heap2 _ _ _) Try.underlying27 rfl info27) rfl ⟨rfl, btr (ball _ _) (ball _ _)⟩
  · go_enter Try.func24, Try.ntmps24
    go_wp2
    exact bodyPost_ret (results_cell_row (fn := Try.f24) Try.results24 _ _ (w.heap.size + 1) 27 (x.set 1 n).v (0, 0) _ (by rfl) (heap2 _ _ _) Try.underlying27 rfl info27) rfl ⟨rfl, btr (ball _ _) (ball _ _)⟩
  · go_enter Try.func24, Try.ntmps24
    go_wp2
    exact bodyPost_ret (results_cell_row (fn := Try.f24) Try.results24 _ _ (w.heap.size + 1) 27 (x.set 38 n).v (0, 0) _ (by rfl) (heap2 _ _ _) Try.underlying27 rfl info27) rfl ⟨rfl, btr (ball _ _) (ball _ _)⟩
  · go_enter Try.func24, Try.ntmps24
    go_wp2
    exact bodyPost_ret (results_cell_row (fn := Try.f24) Try.results24 _ _ (w.heap.size + 1) 27 (x.set 210 n).v (0, 0) _ (by rfl) (heap2 _ _ _) Try.underlying27 rfl info27) rfl ⟨rfl, btr (ball _ _) (ball _ _)⟩
  · go_enter Try.func24, Try.ntmps24
    go_wp2
    exact bodyPost_ret (results_cell_row (fn := Try.f24) Try.results24 _ _ (w.heap.size + 1) 27 (x.set 54 n).v (0, 0) _ (by rfl) (heap2 _ _ _) Try.underlying27 rfl info27) rfl ⟨rfl, btr (ball _ _) (ball _ _)⟩
  · go_enter Try.func24, Try.ntmps24
    go_wp2
    exact bodyPost_ret (results_cell_row (fn := Try.f24) Try.results24 _ _ (w.heap.size + 1) 27 (x.set 40 n).v (0, 0) _ (by rfl) (heap2 _ _ _) Try.underlying27 rfl info27) rfl ⟨rfl, btr (ball _ _) (ball _ _)⟩
  · go_enter Try.func24, Try.ntmps24
    go_wp2
    exact bodyPost_ret (results_cell_row (fn := Try.f24) Try.results24 _ _ (w.heap.size + 1) 27 (x.set 44 n).v (0, 0) _ (by rfl) (heap2 _ _ _) Try.underlying27 rfl info27) rfl ⟨rfl, btr (ball _ _) (ball _ _)⟩
  · go_enter Try.func24, Try.ntmps24
    go_wp2
    exact bodyPost_ret (results_cell_row (fn := Try.f24) Try.results24 _ _ (w.heap.size + 1) 27 (x.set 9001 n).v (0, 0) _ (by rfl) (heap2 _ _ _) Try.underlying27 rfl info27) rfl ⟨rfl, btr (ball _ _) (ball _ _)⟩

end Go.Proofs.Ytnhipamajelalaa
