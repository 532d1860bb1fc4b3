/-
  The texts of this claim, part 7.
-/
import Derived.Test.YtjgjoohdocjpkaaGreatDoorZf
namespace Go.Proofs.YtjgjoohdocjpkaaGreatDoor.Msg
open Go.RowKit Go.Maps Go.Deep Go.Lib
set_option linter.unusedVariables false
set_option linter.unusedSimpArgs false
set_option maxRecDepth 100000
def zeroI : Inp := ⟨0, 0, 0, 0, 0, 0, 0, 0, 0, 0, 0⟩
def agnF (f : Int → Int) (k : Int) (L : List Int) : Inp := L.foldl (fun y t => y.set t (f t)) (bareI k)
theorem agnF_l (f : Int → Int) (k : Int) (h1 : 1 ≤ k) (h4 : k ≤ 4) : (agnF f k (tagsL k)).l = iL k (only (tagsL k) f) := by
  obtain rfl | rfl | rfl | rfl : k = 1 ∨ k = 2 ∨ k = 3 ∨ k = 4 := by omega
  all_goals simp [agnF, tagsL, bareI, Inp.set, iL, only, Inp.l]
  all_goals simp [u32, s64, wrap64]
theorem s64_rg (n : Int) : -9223372036854775808 ≤ s64 n ∧ s64 n < 9223372036854775808 := by unfold s64 wrap64; omega
theorem set_ok (x : Inp) (hx : x.Ok) (hr : x.Rg) (t n : Int) (hn : Wd n) : (x.set t n).Ok ∧ (x.set t n).Rg := by
  unfold Inp.set
  repeat' split
  all_goals exact ⟨⟨by first | exact hn | exact hx.id, by first | exact hn | exact hx.tg, by first | exact hx.me | (simp only [u32]; omega), by first | exact hn | exact hx.qt, by first | exact hn | exact hx.pe⟩, ⟨by first | exact s64_rg n | exact hr.si, by first | exact s64_rg n | exact hr.ty, by first | exact s64_rg n | exact hr.pr, by first | exact s64_rg n | exact hr.en⟩⟩
theorem agnF_ok (f : Int → Int) (hf : ∀ t, Wd (f t)) (k : Int) (L : List Int) : (agnF f k L).Ok ∧ (agnF f k L).Rg := by
  have hb : (bareI k).Ok ∧ (bareI k).Rg := by
    unfold bareI
    split <;> exact ⟨⟨by simp [Wd], by simp [Wd], by simp, by simp [Wd], by simp [Wd]⟩, ⟨by simp, by simp, by simp, by simp⟩⟩
  unfold agnF
  generalize bareI k = y at hb
  induction L generalizing y with
  | nil => exact hb
  | cons t L ih => exact ih _ (set_ok y hb.1 hb.2 t (f t) (hf t))
end Go.Proofs.YtjgjoohdocjpkaaGreatDoor.Msg
namespace Go.Proofs.YtjgjoohdocjpkaaGreatDoor.Msg
open Go.RowKit Go.Maps Go.Deep Go.Lib
set_option linter.unusedVariables false
set_option linter.unusedSimpArgs false
set_option maxRecDepth 100000
/-- a tag of an event's fields. -/
def EvTag (t : Int) : Prop := t = 34 ∨ t = 11 ∨ t = 41 ∨ t = 37 ∨ t = 1 ∨ t = 38 ∨ t = 210 ∨ t = 54 ∨ t = 40 ∨ t = 44 ∨ t = 378 ∨ t = 103
theorem ev_tag {k t : Int} (h1 : 1 ≤ k) (h5 : k ≤ 5) (h : t ∈ tagsL (64 + k)) : EvTag t := by
  obtain rfl | rfl | rfl | rfl | rfl : k = 1 ∨ k = 2 ∨ k = 3 ∨ k = 4 ∨ k = 5 := by omega
  all_goals simp [tagsL] at h
  all_goals unfold EvTag
  all_goals omega
def Evt.set (x : Evt) (t n : Int) : Evt :=
  if t = 34 then { x with sq := n } else
  if t = 11 then { x with id := n } else
  if t = 41 then { x with tg := n } else
  if t = 37 then { x with ot := n } else
  if t = 1 then { x with me := u32 n } else
  if t = 38 then { x with qt := n } else
  if t = 210 then { x with pe := n } else
  if t = 54 then { x with si := s64 n } else
  if t = 40 then { x with ty := s64 n } else
  if t = 44 then { x with pr := s64 n } else
  if t = 378 then { x with re := s64 n } else
  if t = 103 then { x with co := s64 n } else x

def Evt.okV (x : Evt) (t : Int) : Bool := if t = 54 then decide (0 ≤ x.si) else if t = 40 then decide (0 ≤ x.ty) else if t = 44 then decide (0 ≤ x.pr) else if t = 378 then decide (0 ≤ x.re) else if t = 103 then decide (0 ≤ x.co) else true
set_option maxHeartbeats 2000000 in
set_option maxRecDepth 100000 in
theorem valueE_any (x : Evt) (hx : x.Ok) (t : Int) (ht : EvTag t) (w : World) : Calls Tryz.prog 70 #[.agg x.v, .int .i64 t] w fun e w' => e = .returned (.tuple #[.int .u64 (x.f t), .bool (x.okV t)]) ∧ Below w.heap.size w w' := by
  unfold EvTag at ht
  unfold Evt.v eV
  obtain ⟨m0, m1⟩ := hx.me
  clear hx
  rcases ht with rfl | rfl | rfl | rfl | rfl | rfl | rfl | rfl | rfl | rfl | rfl | rfl
  · have e : x.okV 34 = true := by simp [Evt.okV]
    rw [e]
    clear e
    go_enter Tryz.func70, Tryz.ntmps70
    go_wp2
    go_ret2
    exact ⟨rfl, ball _ _⟩
  · have e : x.okV 11 = true := by simp [Evt.okV]
    rw [e]
    clear e
    go_enter Tryz.func70, Tryz.ntmps70
    go_wp2
    go_ret2
    exact ⟨rfl, ball _ _⟩
  · have e : x.okV 41 = true := by simp [Evt.okV]
    rw [e]
    clear e
    go_enter Tryz.func70, Tryz.ntmps70
    go_wp2
    go_ret2
    exact ⟨rfl, ball _ _⟩
  · have e : x.okV 37 = true := by simp [Evt.okV]
    rw [e]
    clear e
    go_enter Tryz.func70, Tryz.ntmps70
    go_wp2
    go_ret2
    exact ⟨rfl, ball _ _⟩
  · have e : x.okV 1 = true := by simp [Evt.okV]
    rw [e]
    clear e
    go_enter Tryz.func70, Tryz.ntmps70
    go_wp2
    go_ret2
    exact ⟨rfl, ball _ _⟩
  · have e : x.okV 38 = true := by simp [Evt.okV]
    rw [e]
    clear e
    go_enter Tryz.func70, Tryz.ntmps70
    go_wp2
    go_ret2
    exact ⟨rfl, ball _ _⟩
  · have e : x.okV 210 = true := by simp [Evt.okV]
    rw [e]
    clear e
    go_enter Tryz.func70, Tryz.ntmps70
    go_wp2
    go_ret2
    exact ⟨rfl, ball _ _⟩
  · by_cases h0 : 0 ≤ x.si
    · have e : x.okV 54 = true := by simp [Evt.okV, h0]
      rw [e]
      clear e
      go_enter Tryz.func70, Tryz.ntmps70
      go_wp2
      go_ret2
      exact ⟨rfl, ball _ _⟩
    · have e : x.okV 54 = false := by simp [Evt.okV, h0]
      rw [e]
      clear e
      go_enter Tryz.func70, Tryz.ntmps70
      go_wp2
      go_ret2
      exact ⟨rfl, ball _ _⟩
  · by_cases h0 : 0 ≤ x.ty
    · have e : x.okV 40 = true := by simp [Evt.okV, h0]
      rw [e]
      clear e
      go_enter Tryz.func70, Tryz.ntmps70
      go_wp2
      go_ret2
      exact ⟨rfl, ball _ _⟩
    · have e : x.okV 40 = false := by simp [Evt.okV, h0]
      rw [e]
      clear e
      go_enter Tryz.func70, Tryz.ntmps70
      go_wp2
      go_ret2
      exact ⟨rfl, ball _ _⟩
  · by_cases h0 : 0 ≤ x.pr
    · have e : x.okV 44 = true := by simp [Evt.okV, h0]
      rw [e]
      clear e
      go_enter Tryz.func70, Tryz.ntmps70
      go_wp2
      go_ret2
      exact ⟨rfl, ball _ _⟩
    · have e : x.okV 44 = false := by simp [Evt.okV, h0]
      rw [e]
      clear e
      go_enter Tryz.func70, Tryz.ntmps70
      go_wp2
      go_ret2
      exact ⟨rfl, ball _ _⟩
  · by_cases h0 : 0 ≤ x.re
    · have e : x.okV 378 = true := by simp [Evt.okV, h0]
      rw [e]
      clear e
      go_enter Tryz.func70, Tryz.ntmps70
      go_wp2
      go_ret2
      exact ⟨rfl, ball _ _⟩
    · have e : x.okV 378 = false := by simp [Evt.okV, h0]
      rw [e]
      clear e
      go_enter Tryz.func70, Tryz.ntmps70
      go_wp2
      go_ret2
      exact ⟨rfl, ball _ _⟩
  · by_cases h0 : 0 ≤ x.co
    · have e : x.okV 103 = true := by simp [Evt.okV, h0]
      rw [e]
      clear e
      go_enter Tryz.func70, Tryz.ntmps70
      go_wp2
      go_ret2
      exact ⟨rfl, ball _ _⟩
    · have e : x.okV 103 = false := by simp [Evt.okV, h0]
      rw [e]
      clear e
      go_enter Tryz.func70, Tryz.ntmps70
      go_wp2
      go_ret2
      exact ⟨rfl, ball _ _⟩

set_option maxHeartbeats 2000000 in
set_option maxRecDepth 100000 in
theorem withE_any (x : Evt) (t n : Int) (ht : EvTag t) (w : World) : Calls Tryz.prog 28 #[.agg x.v, .int .i64 t, .int .u64 n] w fun e w' => e = .returned (.agg (x.set t n).v) ∧ Below w.heap.size w w' := by
  unfold EvTag at ht
  unfold Evt.v eV
  rcases ht with rfl | rfl | rfl | rfl | rfl | rfl | rfl | rfl | rfl | rfl | rfl | rfl
  · go_enter Tryz.func28, Tryz.ntmps28
    go_wp2
    exact bodyPost_ret (results_cell_row (fn := Tryz.f28) Tryz.results28 _ _ (w.heap.size + 1) 34 (x.set 34 n).v (0, 0) _ (by rfl) (heap2 _ _ _) Tryz.underlying34 rfl info39) rfl ⟨rfl, btr (ball _ _) (ball _ _)⟩
  · go_enter Tryz.func28, Tryz.ntmps28
    go_wp2
    exact bodyPost_ret (results_cell_row (fn := Tryz.f28) Tryz.results28 _ _ (w.heap.size + 1) 34 (x.set 11 n).v (0, 0) _ (by rfl) (heap2 _ _ _) Tryz.underlying34 rfl info39) rfl ⟨rfl, btr (ball _ _) (ball _ _)⟩
  · go_enter Tryz.func28, Tryz.ntmps28
    go_wp2
    exact bodyPost_ret (results_cell_row (fn := Tryz.f28) Tryz.results28 _ _ (w.heap.size + 1) 34 (x.set 41 n).v (0, 0) _ (by rfl) (heap2 _ _ _) Tryz.underlying34 rfl info39) rfl ⟨rfl, btr (ball _ _) (ball _ _)⟩
  · go_enter Tryz.func28, Tryz.ntmps28
    go_wp2
    exact bodyPost_ret (results_cell_row (fn := Tryz.f28) Tryz.results28 _ _ (w.heap.size + 1) 34 (x.set 37 n).v (0, 0) _ (by rfl) (heap2 _ _ _) Tryz.underlying34 rfl info39) rfl ⟨rfl, btr (ball _ _) (ball _ _)⟩
  · go_enter Tryz.func28, Tryz.ntmps28
    go_wp2
    exact bodyPost_ret (results_cell_row (fn := Tryz.f28) Tryz.results28 _ _ (w.heap.size + 1) 34 (x.set 1 n).v (0, 0) _ (by rfl) (heap2 _ _ _) Tryz.underlying34 rfl info39) rfl ⟨rfl, btr (ball _ _) (ball _ _)⟩
  · go_enter Tryz.func28, Tryz.ntmps28
    go_wp2
    exact bodyPost_ret (results_cell_row (fn := Tryz.f28) Tryz.results28 _ _ (w.heap.size + 1) 34 (x.set 38 n).v (0, 0) _ (by rfl) (heap2 _ _ _) Tryz.underlying34 rfl info39) rfl ⟨rfl, btr (ball _ _) (ball _ _)⟩
  · go_enter Tryz.func28, Tryz.ntmps28
    go_wp2
    exact bodyPost_ret (results_cell_row (fn := Tryz.f28) Tryz.results28 _ _ (w.heap.size + 1) 34 (x.set 210 n).v (0, 0) _ (by rfl) (heap2 _ _ _) Tryz.underlying34 rfl info39) rfl ⟨rfl, btr (ball _ _) (ball _ _)⟩
  · go_enter Tryz.func28, Tryz.ntmps28
    go_wp2
    exact bodyPost_ret (results_cell_row (fn := Tryz.f28) Tryz.results28 _ _ (w.heap.size + 1) 34 (x.set 54 n).v (0, 0) _ (by rfl) (heap2 _ _ _) Tryz.underlying34 rfl info39) rfl ⟨rfl, btr (ball _ _) (ball _ _)⟩
  · go_enter Tryz.func28, Tryz.ntmps28
    go_wp2
    exact bodyPost_ret (results_cell_row (fn := Tryz.f28) Tryz.results28 _ _ (w.heap.size + 1) 34 (x.set 40 n).v (0, 0) _ (by rfl) (heap2 _ _ _) Tryz.underlying34 rfl info39) rfl ⟨rfl, btr (ball _ _) (ball _ _)⟩
  · go_enter Tryz.func28, Tryz.ntmps28
    go_wp2
    exact bodyPost_ret (results_cell_row (fn := Tryz.f28) Tryz.results28 _ _ (w.heap.size + 1) 34 (x.set 44 n).v (0, 0) _ (by rfl) (heap2 _ _ _) Tryz.underlying34 rfl info39) rfl ⟨rfl, btr (ball _ _) (ball _ _)⟩
  · go_enter Tryz.func28, Tryz.ntmps28
    go_wp2
    exact bodyPost_ret (results_cell_row (fn := Tryz.f28) Tryz.results28 _ _ (w.heap.size + 1) 34 (x.set 378 n).v (0, 0) _ (by rfl) (heap2 _ _ _) Tryz.underlying34 rfl info39) rfl ⟨rfl, btr (ball _ _) (ball _ _)⟩
  · go_enter Tryz.func28, Tryz.ntmps28
    go_wp2
    exact bodyPost_ret (results_cell_row (fn := Tryz.f28) Tryz.results28 _ _ (w.heap.size + 1) 34 (x.set 103 n).v (0, 0) _ (by rfl) (heap2 _ _ _) Tryz.underlying34 rfl info39) rfl ⟨rfl, btr (ball _ _) (ball _ _)⟩

set_option maxHeartbeats 1000000 in
set_option maxRecDepth 100000 in
theorem told_any (k : Int) (h1 : 1 ≤ k) (h5 : k ≤ 5) (w : World) : Calls Tryz.prog 27 #[.int .i64 k] w fun e w' => FldP (64 + k) w e w' := by
  obtain rfl | rfl | rfl | rfl | rfl : k = 1 ∨ k = 2 ∨ k = 3 ∨ k = 4 ∨ k = 5 := by omega
  · go_enter Tryz.func27, Tryz.ntmps27
    go_wp2
    go_ret
    exact ⟨some ⟨w.heap.size + 1 + 1 + 1 + 1 + 1, 0, none⟩, 8, rfl, sf_new 65 _ _ _ (tagsL 65) (by simp) rfl, btr (btr (btr (btr (btr (ball _ _) (ball _ _)) (ball _ _)) (ball _ _)) (ball _ _)) (ball _ _)⟩
  · go_enter Tryz.func27, Tryz.ntmps27
    go_wp2
    go_ret
    exact ⟨some ⟨w.heap.size + 1 + 1 + 1 + 1 + 1, 0, none⟩, 4, rfl, sf_new 66 _ _ _ (tagsL 66) (by simp) rfl, btr (btr (btr (btr (btr (ball _ _) (ball _ _)) (ball _ _)) (ball _ _)) (ball _ _)) (ball _ _)⟩
  · go_enter Tryz.func27, Tryz.ntmps27
    go_wp2
    go_ret
    exact ⟨some ⟨w.heap.size + 1 + 1 + 1 + 1 + 1, 0, none⟩, 6, rfl, sf_new 67 _ _ _ (tagsL 67) (by simp) rfl, btr (btr (btr (btr (btr (ball _ _) (ball _ _)) (ball _ _)) (ball _ _)) (ball _ _)) (ball _ _)⟩
  · go_enter Tryz.func27, Tryz.ntmps27
    go_wp2
    go_ret
    exact ⟨some ⟨w.heap.size + 1 + 1 + 1 + 1 + 1, 0, none⟩, 4, rfl, sf_new 68 _ _ _ (tagsL 68) (by simp) rfl, btr (btr (btr (btr (btr (ball _ _) (ball _ _)) (ball _ _)) (ball _ _)) (ball _ _)) (ball _ _)⟩
  · go_enter Tryz.func27, Tryz.ntmps27
    go_wp2
    go_ret
    exact ⟨some ⟨w.heap.size + 1 + 1 + 1 + 1 + 1, 0, none⟩, 4, rfl, sf_new 69 _ _ _ (tagsL 69) (by simp) rfl, btr (btr (btr (btr (btr (ball _ _) (ball _ _)) (ball _ _)) (ball _ _)) (ball _ _)) (ball _ _)⟩

theorem told_no (k : Int) (h : ¬ (1 ≤ k ∧ k ≤ 5)) (w : World) : Calls Tryz.prog 27 #[.int .i64 k] w fun e w' => e = .returned (.slice none 0 0) ∧ Below w.heap.size w w' := by
  have h1 : ¬ k = 1 := by omega
  have h2 : ¬ k = 2 := by omega
  have h3 : ¬ k = 3 := by omega
  have h4 : ¬ k = 4 := by omega
  have h5 : ¬ k = 5 := by omega
  clear h
  go_enter Tryz.func27, Tryz.ntmps27
  go_wp2
  go_ret
  exact ⟨rfl, btr (btr (btr (btr (ball _ _) (ball _ _)) (ball _ _)) (ball _ _)) (ball _ _)⟩
end Go.Proofs.YtjgjoohdocjpkaaGreatDoor.Msg
namespace Go.Proofs.YtjgjoohdocjpkaaGreatDoor.Msg
open Go.RowKit Go.Maps Go.Deep Go.Lib
set_option linter.unusedVariables false
set_option linter.unusedSimpArgs false
set_option maxRecDepth 100000
def goodE (x : Evt) (t : Int) : Bool := x.okV t && (decide (most t = 0) || decide (x.f t ≤ most t))
def bareE (kd : Int) : Evt := ⟨0, kd, 0, 0, 0, 0, 0, 0, 0, 0, 0, 0, 0⟩
def agnE (x : Evt) (L : List Int) : Evt := L.foldl (fun y t => y.set t (x.f t)) (bareE x.kd)
theorem agnE_step (x : Evt) (L : List Int) (j : Nat) (h : j < L.length) : agnE x (L.take (j + 1)) = (agnE x (L.take j)).set L[j] (x.f L[j]) := by
  unfold agnE
  rw [List.take_succ_eq_append_getElem h, List.foldl_append]
  rfl
structure VaE (w : World) (x : Evt) (k : Int) (q : Option Addr) (L : List Int) (A B j : Nat) (v : Value) (wr : World) : Prop where
  i : wr.heap[w.heap.size]? = some (.cells x.v 34 (0, 0))
  a : wr.heap[A]? = some (.cells (agnE x (L.take j)).v 34 (0, 0))
  s : Sf wr q k L
  o : wr.ownsRow B 24 1 v j (uv ((L.take j).map x.f))
  bel : Below w.heap.size w wr
  bs : B ≤ wr.heap.size
  g : (L.take j).all (goodE x) = true
theorem VaE.below {w wr w' : World} {x : Evt} {k : Int} {q : Option Addr} {L : List Int} {A B j : Nat} {v : Value} (h : VaE w x k q L A B j v wr) (hb : Below wr.heap.size wr w') : VaE w x k q L A B j v w' :=
  ⟨row_on h.i hb, row_on h.a hb, h.s.on hb, h.o.kept (grown_of hb) (by cases v.ownBlock <;> simp), btr h.bel hb, Nat.le_trans h.bs hb.size, h.g⟩
theorem VaE.drew {w wr : World} {x : Evt} {k : Int} {q : Option Addr} {L : List Int} {A B j : Nat} {v : Value} (h : VaE w x k q L A B j v wr) : VaE w x k q L A B j v wr.drew := h.below ⟨rfl, rfl, rfl, Nat.le_refl _, fun _ _ => rfl⟩
theorem frz_E {w : World} {g : Nat} {cs : Array Value} (h : w.heap[g]? = some (.cells cs 34 (0, 0))) : w.frozen? ⟨g, 0, none⟩ = false ∧ w.frozen? ⟨g, 1, none⟩ = false ∧ w.frozen? ⟨g, 2, none⟩ = false ∧ w.frozen? ⟨g, 3, none⟩ = false ∧ w.frozen? ⟨g, 4, none⟩ = false ∧ w.frozen? ⟨g, 5, none⟩ = false ∧ w.frozen? ⟨g, 6, none⟩ = false ∧ w.frozen? ⟨g, 7, none⟩ = false ∧ w.frozen? ⟨g, 8, none⟩ = false ∧ w.frozen? ⟨g, 9, none⟩ = false ∧ w.frozen? ⟨g, 10, none⟩ = false ∧ w.frozen? ⟨g, 11, none⟩ = false ∧ w.frozen? ⟨g, 12, none⟩ = false :=
  ⟨frozen_of_row w g 0 _ 34 h, frozen_of_row w g 1 _ 34 h, frozen_of_row w g 2 _ 34 h, frozen_of_row w g 3 _ 34 h, frozen_of_row w g 4 _ 34 h, frozen_of_row w g 5 _ 34 h, frozen_of_row w g 6 _ 34 h, frozen_of_row w g 7 _ 34 h, frozen_of_row w g 8 _ 34 h, frozen_of_row w g 9 _ 34 h, frozen_of_row w g 10 _ 34 h, frozen_of_row w g 11 _ 34 h, frozen_of_row w g 12 _ 34 h⟩
theorem st13 (w : World) (A : Nat) (o y : Evt) (h : w.heap[A]? = some (.cells o.v 34 (0, 0))) : ∃ W, (((((((((((((w.setCell ⟨A, 0, none⟩ (.int .u64 y.sq)).setCell ⟨A, 1, none⟩ (.int .i64 y.kd)).setCell ⟨A, 2, none⟩ (.int .u64 y.id)).setCell ⟨A, 3, none⟩ (.int .u64 y.ot)).setCell ⟨A, 4, none⟩ (.int .u64 y.tg)).setCell ⟨A, 5, none⟩ (.int .u32 y.me)).setCell ⟨A, 6, none⟩ (.int .i64 y.si)).setCell ⟨A, 7, none⟩ (.int .i64 y.ty)).setCell ⟨A, 8, none⟩ (.int .i64 y.pr)).setCell ⟨A, 9, none⟩ (.int .u64 y.qt)).setCell ⟨A, 10, none⟩ (.int .u64 y.pe)).setCell ⟨A, 11, none⟩ (.int .i64 y.re)).setCell ⟨A, 12, none⟩ (.int .i64 y.co)) = W ∧ St w A 34 y.v W := by
  have h1 := heap_setCell_same w A 0 _ 34 (.int .u64 y.sq) h
  have h2 := heap_setCell_same (w.setCell ⟨A, 0, none⟩ (.int .u64 y.sq)) A 1 _ 34 (.int .i64 y.kd) h1
  have h3 := heap_setCell_same ((w.setCell ⟨A, 0, none⟩ (.int .u64 y.sq)).setCell ⟨A, 1, none⟩ (.int .i64 y.kd)) A 2 _ 34 (.int .u64 y.id) h2
  have h4 := heap_setCell_same (((w.setCell ⟨A, 0, none⟩ (.int .u64 y.sq)).setCell ⟨A, 1, none⟩ (.int .i64 y.kd)).setCell ⟨A, 2, none⟩ (.int .u64 y.id)) A 3 _ 34 (.int .u64 y.ot) h3
  have h5 := heap_setCell_same ((((w.setCell ⟨A, 0, none⟩ (.int .u64 y.sq)).setCell ⟨A, 1, none⟩ (.int .i64 y.kd)).setCell ⟨A, 2, none⟩ (.int .u64 y.id)).setCell ⟨A, 3, none⟩ (.int .u64 y.ot)) A 4 _ 34 (.int .u64 y.tg) h4
  have h6 := heap_setCell_same (((((w.setCell ⟨A, 0, none⟩ (.int .u64 y.sq)).setCell ⟨A, 1, none⟩ (.int .i64 y.kd)).setCell ⟨A, 2, none⟩ (.int .u64 y.id)).setCell ⟨A, 3, none⟩ (.int .u64 y.ot)).setCell ⟨A, 4, none⟩ (.int .u64 y.tg)) A 5 _ 34 (.int .u32 y.me) h5
  have h7 := heap_setCell_same ((((((w.setCell ⟨A, 0, none⟩ (.int .u64 y.sq)).setCell ⟨A, 1, none⟩ (.int .i64 y.kd)).setCell ⟨A, 2, none⟩ (.int .u64 y.id)).setCell ⟨A, 3, none⟩ (.int .u64 y.ot)).setCell ⟨A, 4, none⟩ (.int .u64 y.tg)).setCell ⟨A, 5, none⟩ (.int .u32 y.me)) A 6 _ 34 (.int .i64 y.si) h6
  have h8 := heap_setCell_same (((((((w.setCell ⟨A, 0, none⟩ (.int .u64 y.sq)).setCell ⟨A, 1, none⟩ (.int .i64 y.kd)).setCell ⟨A, 2, none⟩ (.int .u64 y.id)).setCell ⟨A, 3, none⟩ (.int .u64 y.ot)).setCell ⟨A, 4, none⟩ (.int .u64 y.tg)).setCell ⟨A, 5, none⟩ (.int .u32 y.me)).setCell ⟨A, 6, none⟩ (.int .i64 y.si)) A 7 _ 34 (.int .i64 y.ty) h7
  have h9 := heap_setCell_same ((((((((w.setCell ⟨A, 0, none⟩ (.int .u64 y.sq)).setCell ⟨A, 1, none⟩ (.int .i64 y.kd)).setCell ⟨A, 2, none⟩ (.int .u64 y.id)).setCell ⟨A, 3, none⟩ (.int .u64 y.ot)).setCell ⟨A, 4, none⟩ (.int .u64 y.tg)).setCell ⟨A, 5, none⟩ (.int .u32 y.me)).setCell ⟨A, 6, none⟩ (.int .i64 y.si)).setCell ⟨A, 7, none⟩ (.int .i64 y.ty)) A 8 _ 34 (.int .i64 y.pr) h8
  have h10 := heap_setCell_same (((((((((w.setCell ⟨A, 0, none⟩ (.int .u64 y.sq)).setCell ⟨A, 1, none⟩ (.int .i64 y.kd)).setCell ⟨A, 2, none⟩ (.int .u64 y.id)).setCell ⟨A, 3, none⟩ (.int .u64 y.ot)).setCell ⟨A, 4, none⟩ (.int .u64 y.tg)).setCell ⟨A, 5, none⟩ (.int .u32 y.me)).setCell ⟨A, 6, none⟩ (.int .i64 y.si)).setCell ⟨A, 7, none⟩ (.int .i64 y.ty)).setCell ⟨A, 8, none⟩ (.int .i64 y.pr)) A 9 _ 34 (.int .u64 y.qt) h9
  have h11 := heap_setCell_same ((((((((((w.setCell ⟨A, 0, none⟩ (.int .u64 y.sq)).setCell ⟨A, 1, none⟩ (.int .i64 y.kd)).setCell ⟨A, 2, none⟩ (.int .u64 y.id)).setCell ⟨A, 3, none⟩ (.int .u64 y.ot)).setCell ⟨A, 4, none⟩ (.int .u64 y.tg)).setCell ⟨A, 5, none⟩ (.int .u32 y.me)).setCell ⟨A, 6, none⟩ (.int .i64 y.si)).setCell ⟨A, 7, none⟩ (.int .i64 y.ty)).setCell ⟨A, 8, none⟩ (.int .i64 y.pr)).setCell ⟨A, 9, none⟩ (.int .u64 y.qt)) A 10 _ 34 (.int .u64 y.pe) h10
  have h12 := heap_setCell_same (((((((((((w.setCell ⟨A, 0, none⟩ (.int .u64 y.sq)).setCell ⟨A, 1, none⟩ (.int .i64 y.kd)).setCell ⟨A, 2, none⟩ (.int .u64 y.id)).setCell ⟨A, 3, none⟩ (.int .u64 y.ot)).setCell ⟨A, 4, none⟩ (.int .u64 y.tg)).setCell ⟨A, 5, none⟩ (.int .u32 y.me)).setCell ⟨A, 6, none⟩ (.int .i64 y.si)).setCell ⟨A, 7, none⟩ (.int .i64 y.ty)).setCell ⟨A, 8, none⟩ (.int .i64 y.pr)).setCell ⟨A, 9, none⟩ (.int .u64 y.qt)).setCell ⟨A, 10, none⟩ (.int .u64 y.pe)) A 11 _ 34 (.int .i64 y.re) h11
  have h13 := heap_setCell_same ((((((((((((w.setCell ⟨A, 0, none⟩ (.int .u64 y.sq)).setCell ⟨A, 1, none⟩ (.int .i64 y.kd)).setCell ⟨A, 2, none⟩ (.int .u64 y.id)).setCell ⟨A, 3, none⟩ (.int .u64 y.ot)).setCell ⟨A, 4, none⟩ (.int .u64 y.tg)).setCell ⟨A, 5, none⟩ (.int .u32 y.me)).setCell ⟨A, 6, none⟩ (.int .i64 y.si)).setCell ⟨A, 7, none⟩ (.int .i64 y.ty)).setCell ⟨A, 8, none⟩ (.int .i64 y.pr)).setCell ⟨A, 9, none⟩ (.int .u64 y.qt)).setCell ⟨A, 10, none⟩ (.int .u64 y.pe)).setCell ⟨A, 11, none⟩ (.int .i64 y.re)) A 12 _ 34 (.int .i64 y.co) h12
  refine ⟨_, rfl, ⟨?_, fun b hb => ?_, by simp, fun B W0 hb hB => ?_⟩⟩
  · rw [h13]
    simp [Evt.v, eV]
  · rw [heap_setCell_other _ _ _ _ (by exact hb), heap_setCell_other _ _ _ _ (by exact hb), heap_setCell_other _ _ _ _ (by exact hb), heap_setCell_other _ _ _ _ (by exact hb), heap_setCell_other _ _ _ _ (by exact hb), heap_setCell_other _ _ _ _ (by exact hb), heap_setCell_other _ _ _ _ (by exact hb), heap_setCell_other _ _ _ _ (by exact hb), heap_setCell_other _ _ _ _ (by exact hb), heap_setCell_other _ _ _ _ (by exact hb), heap_setCell_other _ _ _ _ (by exact hb), heap_setCell_other _ _ _ _ (by exact hb), heap_setCell_other _ _ _ _ (by exact hb)]
  · exact (((((((((((((hb.setCell (by exact hB) _).setCell (by exact hB) _).setCell (by exact hB) _).setCell (by exact hB) _).setCell (by exact hB) _).setCell (by exact hB) _).setCell (by exact hB) _).setCell (by exact hB) _).setCell (by exact hB) _).setCell (by exact hB) _).setCell (by exact hB) _).setCell (by exact hB) _).setCell (by exact hB) _)

theorem VaE.next {w w1 w2 W3 W4 : World} {x : Evt} {k : Int} {qb qo : Nat} {L : List Int} {A j : Nat} {v v' : Value} {c : Int} (h : VaE w x k (some ⟨qb, qo, none⟩) L A (A + 1) j v w1) (hb : Below w1.heap.size w1 w2) (hs : St w2 A 34 (agnE x (L.take (j + 1))).v W3)
    (hg : (W3.alloc (.cells #[.int .u64 c] 24)).grownBy W4 v.ownBlock) (ho : W4.ownsRow (A + 1) 24 1 v' (j + 1) (uv ((L.take (j + 1)).map x.f))) (hWA : w.heap.size < A) (hq : qb < A) (hgd : (L.take (j + 1)).all (goodE x) = true) : VaE w x k (some ⟨qb, qo, none⟩) L A (A + 1) (j + 1) v' W4 := by
  have hown : ∀ b, b < A + 1 → some b ≠ v.ownBlock := fun b hlt e => by
    have := (h.o.lt b e.symm).1
    omega
  have h2 := h.below hb
  have hrow : ∀ b o', b < A + 1 → (W3.alloc (.cells #[.int .u64 c] 24)).heap[b]? = some o' → W4.heap[b]? = some o' := fun b o' hlt e => by
    rw [hg.block b (row_lt e) (hown b hlt)]
    exact e
  refine ⟨hrow _ _ (by omega) (row_on ((hs.oth _ (by omega)).trans h2.i) (ball _ _)), hrow _ _ (by omega) (row_on hs.row (ball _ _)), ?_, ho, ?_, ?_, hgd⟩
  · intro i hi
    obtain ⟨b, o', e, c0, c1, c2, c3⟩ := h2.s i hi
    obtain ⟨rfl, rfl⟩ := addr_inj e
    have hc : ∀ j u, w2.cell? ⟨qb, j, none⟩ = some u → W4.cell? ⟨qb, j, none⟩ = some u := fun j u hu => by
      have h3 := hs.cell (b := qb) (by omega) hu
      have h4 := ((ball W3 (.cells #[.int .u64 c] 24)).cell (cell_lt h3)).trans h3
      have h5 := hg.block qb (cell_lt h4) (hown qb (by omega))
      unfold World.cell? at h4 ⊢
      simp only [h5]
      exact h4
    exact ⟨qb, qo, rfl, hc _ _ c0, hc _ _ c1, hc _ _ c2, hc _ _ c3⟩
  · refine (btr (hs.bel _ _ h2.bel (by omega)) (ball _ _)).grown hg ?_ (fun i hi => ?_)
    · have := h2.bel.size
      have e3 := hs.siz
      simp
      omega
    · have := (h.o.lt i hi).1
      omega
  · have e3 := hs.siz
    have e4 := hg.size
    have := h2.bs
    simp at e4
    omega
def ValE (x : Evt) (w : World) (e : Ending) (w' : World) : Prop := Below w.heap.size w w' ∧
  ((¬ ((tagsL x.k).all (goodE x) = true ∧ (agnE x (tagsL x.k)).v = x.v) ∧ e = .returned (.tuple #[.slice none 0 0, .int .i64 40])) ∨
   (((tagsL x.k).all (goodE x) = true ∧ (agnE x (tagsL x.k)).v = x.v) ∧ ∃ p cp, e = .returned (.tuple #[.slice p (tagsL x.k).length cp, .int .i64 0]) ∧ Su w' p ((tagsL x.k).map x.f)))
set_option maxHeartbeats 4000000 in
set_option maxRecDepth 100000 in
theorem valuesE_any (x : Evt) (hx : x.Ok) (w : World) (h0 : 1 ≤ x.kd) (h5 : x.kd ≤ 5) :
    Calls Tryz.prog 46 #[.agg x.v] w fun e w' => ValE x w e w' := by
  have hk : x.k = 64 + x.kd := by unfold Evt.k; rw [if_pos ⟨h0, h5⟩]
  have FA := hid (fun w => told_any x.kd h0 h5 w)
  have VA := hid (fun t ht w => valueE_any x hx t ht w)
  have HIT := hid (fun t ht => ev_tag (t := t) h0 h5 ht)
  have hlen := tags_len (64 + x.kd)
  have hpos : 0 < (tagsL (64 + x.kd)).length := by
    obtain e | e | e | e | e : x.kd = 1 ∨ x.kd = 2 ∨ x.kd = 3 ∨ x.kd = 4 ∨ x.kd = 5 := by omega
    all_goals (rw [e]; simp [tagsL])
  have HMN := hid most_nn
  have HI := hid (show (w.alloc (.cells x.v 34)).heap[w.heap.size]? = some (.cells x.v 34 (0, 0)) from heap_alloc_new _ _)
  obtain ⟨k, hk2⟩ : ∃ k, 64 + x.kd = k := ⟨_, rfl⟩
  have HK := hid (hk.trans hk2)
  unfold FldP at FA
  rw [hk2] at FA HIT hlen hpos
  clear hk hk2 h0 h5 hx
  obtain ⟨L, hL⟩ : ∃ l, tagsL k = l := ⟨_, rfl⟩
  rw [hL] at HIT hlen FA hpos
  have HP := hid (show ∀ e w', (Below w.heap.size w w' ∧
    ((¬ (L.all (goodE x) = true ∧ (agnE x L).v = x.v) ∧ e = .returned (.tuple #[.slice none 0 0, .int .i64 40])) ∨
     ((L.all (goodE x) = true ∧ (agnE x L).v = x.v) ∧ ∃ p cp, e = .returned (.tuple #[.slice p L.length cp, .int .i64 0]) ∧ Su w' p (L.map x.f)))) → ValE x w e w' by
    intro e w' h
    unfold ValE
    rw [HK.out, hL]
    exact h)
  have hne : ((L.length : Int) == 0) = false := by
    have : ¬ (L.length : Int) = 0 := by omega
    simpa using this
  clear hL
  unfold Evt.v eV at HI
  unfold Evt.v eV
  go_enter Tryz.func46, Tryz.ntmps46
  go_wp2_with (first | (go_at_call 27; refine (FA.out _).mono ?_; rintro e w4 ⟨q, cap, rfl, hS, hb⟩; have HB3 := hid hb; have HS3 := hid hS; clear hb hS; refine Hid.out ?_))
  have k0 : w4.cell? ⟨w.heap.size, 1, none⟩ = some (.int .i64 x.kd) := row_cell (row_on HI.out HB3.out) 1
  have HI5 := hid (show (w4.alloc (.cells (bareE x.kd).v 34)).heap[w.heap.size]? = some (.cells x.v 34 (0, 0)) from row_on (row_on HI.out HB3.out) (ball _ _))
  have HBW5 := hid (show Below w.heap.size w (w4.alloc (.cells (bareE x.kd).v 34)) from btr (btr (ball _ _) HB3.out) (ball _ _))
  have HS5 := hid (show Sf (w4.alloc (.cells (bareE x.kd).v 34)) q k L from HS3.out.on (ball _ _))
  have HQ := hid (show 0 < L.length → ∀ b o, q = some ⟨b, o, none⟩ → b < w4.heap.size from fun h0 b o e => by
    obtain ⟨b', o', e', hc, _⟩ := HS3.out 0 h0
    rw [e'] at e
    simp at e
    rw [← e.1]
    exact cell_lt hc)
  have HWA := hid (show w.heap.size < w4.heap.size from row_lt (row_on HI.out HB3.out))
  have PK := hid (show VaE w x k q L w4.heap.size (w4.heap.size + 1) 0 (.slice none 0 0) (w4.alloc (.cells (bareE x.kd).v 34)) from ⟨HI5.out, heap_alloc_new _ _, HS5.out, by simpa [uv] using World.ownsRow_nil _ _ 24 1, HBW5.out, by simp, by simp⟩)
  clear HI HB3 HS3 HI5 HBW5 HS5 FA
  refine hid ?_
  go_wp2
  unfold Evt.v eV at PK
  obtain ⟨W5, hW5⟩ : ∃ y, w4.alloc (.cells #[.int .u64 0, .int .i64 x.kd, .int .u64 0, .int .u64 0, .int .u64 0, .int .u32 0, .int .i64 0, .int .i64 0, .int .i64 0, .int .u64 0, .int .u64 0, .int .i64 0, .int .i64 0] 34) = y := ⟨_, rfl⟩
  have PK2 := hid (show VaE w x k q L w4.heap.size (w4.heap.size + 1) 0 (.slice none 0 0) W5 from hW5 ▸ PK.out)
  obtain ⟨A, hA⟩ : ∃ y, w4.heap.size = y := ⟨_, rfl⟩
  rw [hA] at PK2
  rw [hA] at HQ HWA
  rw [hW5, hA]
  clear hW5 hA PK k0
  go_loopw [6, 7] (fun v iv wr => ∃ j : Nat, j ≤ L.length ∧ iv = .int .i64 j ∧ VaE w x k q L A (A + 1) j v wr) (fun _ iv _ => L.length - (RowKit.intOf iv).toNat)
  case atStart => exact ⟨0, Nat.zero_le _, rfl, PK2.out⟩
  case round =>
    obtain ⟨j, hj, rfl, hpk⟩ := hrel
    have PJ := hid hpk
    clear hpk PK2
    by_cases hjl : j < L.length
    · have hjl' : (j : Int) < (L.length : Int) := by omega
      have hj0 : (0 : Int) ≤ (j : Int) := by omega
      obtain ⟨qb, qo, rfl, f0, _, _, _⟩ := PJ.out.s j hjl
      have HAG := hid (agnE_step x L j hjl)
      have HTK := hid (List.take_succ_eq_append_getElem hjl)
      have HT := hid (HIT.out L[j] (List.getElem_mem hjl))
      have HGF := hid (show goodE x L[j] = false → L.all (goodE x) = false from fun h => by
        rw [List.all_eq_false]
        exact ⟨L[j], List.getElem_mem hjl, by simp [h]⟩)
      obtain ⟨t, ht⟩ : ∃ t, L[j] = t := ⟨_, rfl⟩
      rw [ht] at f0 HAG HT HTK HGF
      have VL := hid (fun w => VA.out t HT.out w)
      obtain ⟨c0, c1, c2, c3, c4, c5, c6, c7, c8, c9, c10, c11, c12⟩ := cells_E PJ.out.i
      unfold Evt.v eV at VL
      have WI := hid (fun w => withE_any (agnE x (L.take j)) t (x.f t) HT.out w)
      unfold Evt.v eV at WI
      cases hok : x.okV t with
      | false =>
        rw [hok] at VL
        go_wp2
        go_region_with (first | (go_at_call 70; refine (VL.out wr.drew).mono ?_; rintro e w1 ⟨rfl, hb⟩; have HB1 := hid hb; clear hb))
        all_goals
          have P1 := hid (PJ.out.drew.below (w' := w1) HB1.out)
          obtain ⟨_, _, he1, g0, g1, _, _⟩ := P1.out.s j hjl
          obtain ⟨rfl, rfl⟩ := addr_inj he1
          rw [ht] at g0 g1
          clear HB1 he1 c0 c1 c2 c3 c4 c5 c6 c7 c8 c9 c10 c11 c12 f0

          go_wp2
          go_ret2
          exact HP.out _ _ ⟨P1.out.bel, Or.inl ⟨bad_of (HGF.out (by simp [goodE, hok])), rfl⟩⟩

      | true =>
        rw [hok] at VL
        by_cases hm0 : 0 < most t
        · by_cases hle : x.f t ≤ most t
          · have hgd : goodE x t = true := by simp [goodE, hok, hle]
            go_wp2
            go_region_with (first | (go_at_call 70; refine (VL.out wr.drew).mono ?_; rintro e w1 ⟨rfl, hb⟩; have HB1 := hid hb; clear hb))
            all_goals
              have P1 := hid (PJ.out.drew.below (w' := w1) HB1.out)
              obtain ⟨_, _, he1, g0, g1, _, _⟩ := P1.out.s j hjl
              obtain ⟨rfl, rfl⟩ := addr_inj he1
              rw [ht] at g0 g1
              clear HB1 he1 c0 c1 c2 c3 c4 c5 c6 c7 c8 c9 c10 c11 c12 f0

              obtain ⟨d0, d1, d2, d3, d4, d5, d6, d7, d8, d9, d10, d11, d12⟩ := cells_E P1.out.a
              go_wp2
              go_region_with (first | (go_at_call 28; refine (WI.out w1.drew).mono ?_; rintro e w2 ⟨rfl, hb⟩; have HR2 := hid (show w2.heap[A]? = some (.cells (agnE x (L.take j)).v 34 (0, 0)) from row_on (w := w1.drew) P1.out.a hb); obtain ⟨e0, e1, e2, e3, e4, e5, e6, e7, e8, e9, e10, e11, e12⟩ := cells_E HR2.out; obtain ⟨z0, z1, z2, z3, z4, z5, z6, z7, z8, z9, z10, z11, z12⟩ := frz_E HR2.out; have HB2 := hid hb; clear hb))
              all_goals
                obtain ⟨W3, hW3, hST⟩ := st13 w2 A _ ((agnE x (L.take j)).set t (x.f t)) HR2.out
                rw [← HAG.out] at hST
                have HST := hid hST
                have HO3 := hid ((P1.out.drew.below HB2.out).o.kept hST.grown (Or.inr (fun e => by have := (P1.out.o.lt A e).1; omega)))
                have hB3 : A + 1 ≤ W3.heap.size := by have h1 := (P1.out.drew.below HB2.out).bs; have h2 := hST.siz; omega
                clear hST z0 z1 z2 z3 z4 z5 z6 z7 z8 z9 z10 z11 z12 e0 e1 e2 e3 e4 e5 e6 e7 e8 e9 e10 e11 e12 d0 d1 d2 d3 d4 d5 d6 d7 d8 d9 d10 d11 d12 HR2
                rw [hW3]
                clear hW3
                go_wp2_with (first | (at_builtin; refine own_app W3 (by rfl) (.tmp 62) (.tmp 64) (by rfl) (A + 1) _ _ j (by rfl) HO3.out (x.f t) (by rfl) (by omega) hB3 ?_; intro v4 w5 ho5 hg5; have HO5 := hid ho5; have HG5 := hid hg5; clear ho5 hg5; refine Hid.out ?_))
                have PN := hid (show VaE w x k (some ⟨qb, qo, none⟩) L A (A + 1) (j + 1) v4 w5 from P1.out.drew.next HB2.out HST.out HG5.out (by rw [HTK.out]; simpa [List.map_append] using HO5.out) HWA.out (HQ.out (by omega) _ _ rfl) (by rw [HTK.out, List.all_append, P1.out.g]; simp [hgd]))
                clear HO5 HG5 HST HO3 P1 HB2
                refine hid ?_
                go_wp2
                go_roundw
                case rel => exact ⟨j + 1, by omega, by go_num, PN.out⟩
                case measure => simp [RowKit.intOf]; omega

          · have hlt : most t < x.f t := by omega
            go_wp2
            go_region_with (first | (go_at_call 70; refine (VL.out wr.drew).mono ?_; rintro e w1 ⟨rfl, hb⟩; have HB1 := hid hb; clear hb))
            all_goals
              have P1 := hid (PJ.out.drew.below (w' := w1) HB1.out)
              obtain ⟨_, _, he1, g0, g1, _, _⟩ := P1.out.s j hjl
              obtain ⟨rfl, rfl⟩ := addr_inj he1
              rw [ht] at g0 g1
              clear HB1 he1 c0 c1 c2 c3 c4 c5 c6 c7 c8 c9 c10 c11 c12 f0

              go_wp2
              go_ret2
              exact HP.out _ _ ⟨P1.out.bel, Or.inl ⟨bad_of (HGF.out (by simp only [goodE, hok, Bool.true_and, Bool.or_eq_false_iff, decide_eq_false_iff_not]; omega)), rfl⟩⟩

        · have hgd : goodE x t = true := by simp only [goodE, hok, Bool.true_and, Bool.or_eq_true, decide_eq_true_eq]; exact Or.inl (by have := HMN.out t; omega)
          go_wp2
          go_region_with (first | (go_at_call 70; refine (VL.out wr.drew).mono ?_; rintro e w1 ⟨rfl, hb⟩; have HB1 := hid hb; clear hb))
          all_goals
            have P1 := hid (PJ.out.drew.below (w' := w1) HB1.out)
            obtain ⟨_, _, he1, g0, g1, _, _⟩ := P1.out.s j hjl
            obtain ⟨rfl, rfl⟩ := addr_inj he1
            rw [ht] at g0 g1
            clear HB1 he1 c0 c1 c2 c3 c4 c5 c6 c7 c8 c9 c10 c11 c12 f0

            obtain ⟨d0, d1, d2, d3, d4, d5, d6, d7, d8, d9, d10, d11, d12⟩ := cells_E P1.out.a
            go_wp2
            go_region_with (first | (go_at_call 28; refine (WI.out w1.drew).mono ?_; rintro e w2 ⟨rfl, hb⟩; have HR2 := hid (show w2.heap[A]? = some (.cells (agnE x (L.take j)).v 34 (0, 0)) from row_on (w := w1.drew) P1.out.a hb); obtain ⟨e0, e1, e2, e3, e4, e5, e6, e7, e8, e9, e10, e11, e12⟩ := cells_E HR2.out; obtain ⟨z0, z1, z2, z3, z4, z5, z6, z7, z8, z9, z10, z11, z12⟩ := frz_E HR2.out; have HB2 := hid hb; clear hb))
            all_goals
              obtain ⟨W3, hW3, hST⟩ := st13 w2 A _ ((agnE x (L.take j)).set t (x.f t)) HR2.out
              rw [← HAG.out] at hST
              have HST := hid hST
              have HO3 := hid ((P1.out.drew.below HB2.out).o.kept hST.grown (Or.inr (fun e => by have := (P1.out.o.lt A e).1; omega)))
              have hB3 : A + 1 ≤ W3.heap.size := by have h1 := (P1.out.drew.below HB2.out).bs; have h2 := hST.siz; omega
              clear hST z0 z1 z2 z3 z4 z5 z6 z7 z8 z9 z10 z11 z12 e0 e1 e2 e3 e4 e5 e6 e7 e8 e9 e10 e11 e12 d0 d1 d2 d3 d4 d5 d6 d7 d8 d9 d10 d11 d12 HR2
              rw [hW3]
              clear hW3
              go_wp2_with (first | (at_builtin; refine own_app W3 (by rfl) (.tmp 62) (.tmp 64) (by rfl) (A + 1) _ _ j (by rfl) HO3.out (x.f t) (by rfl) (by omega) hB3 ?_; intro v4 w5 ho5 hg5; have HO5 := hid ho5; have HG5 := hid hg5; clear ho5 hg5; refine Hid.out ?_))
              have PN := hid (show VaE w x k (some ⟨qb, qo, none⟩) L A (A + 1) (j + 1) v4 w5 from P1.out.drew.next HB2.out HST.out HG5.out (by rw [HTK.out]; simpa [List.map_append] using HO5.out) HWA.out (HQ.out (by omega) _ _ rfl) (by rw [HTK.out, List.all_append, P1.out.g]; simp [hgd]))
              clear HO5 HG5 HST HO3 P1 HB2
              refine hid ?_
              go_wp2
              go_roundw
              case rel => exact ⟨j + 1, by omega, by go_num, PN.out⟩
              case measure => simp [RowKit.intOf]; omega

    · have hje : j = L.length := by omega
      subst hje
      have hp := PJ.out
      obtain ⟨ha, hg, ho⟩ := And.intro hp.a (And.intro hp.g hp.o)
      rw [List.take_length (l := L)] at ha hg ho
      have HG := hid hg
      have HO := hid ho
      have HBE := hid hp.bel
      obtain ⟨c0, c1, c2, c3, c4, c5, c6, c7, c8, c9, c10, c11, c12⟩ := cells_E hp.i
      obtain ⟨d0, d1, d2, d3, d4, d5, d6, d7, d8, d9, d10, d11, d12⟩ := cells_E ha
      clear hp hg ho ha PJ
      by_cases hto : (agnE x L).v = x.v
      · have q := eqE_yes (agnE x L).sq (agnE x L).kd (agnE x L).id (agnE x L).ot (agnE x L).tg (agnE x L).me (agnE x L).si (agnE x L).ty (agnE x L).pr (agnE x L).qt (agnE x L).pe (agnE x L).re (agnE x L).co x.sq x.kd x.id x.ot x.tg x.me x.si x.ty x.pr x.qt x.pe x.re x.co hto
        unfold eV at q
        have HTO := hid hto
        clear hto
        go_wp2
        go_ret2
        obtain ⟨p, cp, hv, hsu⟩ := own_su HO.out
        refine HP.out _ _ ⟨HBE.out, Or.inr ⟨⟨HG.out, HTO.out⟩, p, cp, ?_, hsu⟩⟩
        simp [hv]
      · have q := eqE_no (agnE x L).sq (agnE x L).kd (agnE x L).id (agnE x L).ot (agnE x L).tg (agnE x L).me (agnE x L).si (agnE x L).ty (agnE x L).pr (agnE x L).qt (agnE x L).pe (agnE x L).re (agnE x L).co x.sq x.kd x.id x.ot x.tg x.me x.si x.ty x.pr x.qt x.pe x.re x.co hto
        unfold eV at q
        have HTO := hid hto
        clear hto
        go_wp2
        go_ret2
        exact HP.out _ _ ⟨HBE.out, Or.inl ⟨fun h => HTO.out h.2, rfl⟩⟩
end Go.Proofs.YtjgjoohdocjpkaaGreatDoor.Msg
namespace Go.Proofs.YtjgjoohdocjpkaaGreatDoor.Msg
open Go.RowKit Go.Maps Go.Deep Go.Lib
set_option linter.unusedVariables false
set_option linter.unusedSimpArgs false
set_option maxRecDepth 100000
structure Evt.Rg (x : Evt) : Prop where
  si : -9223372036854775808 ≤ x.si ∧ x.si < 9223372036854775808
  ty : -9223372036854775808 ≤ x.ty ∧ x.ty < 9223372036854775808
  pr : -9223372036854775808 ≤ x.pr ∧ x.pr < 9223372036854775808
  re : -9223372036854775808 ≤ x.re ∧ x.re < 9223372036854775808
  co : -9223372036854775808 ≤ x.co ∧ x.co < 9223372036854775808
theorem goodE_eq (x : Evt) (hx : x.Ok) (hr : x.Rg) (t : Int) (ht : EvTag t) : goodE x t = decide (x.f t ≤ bnd t) := by
  obtain ⟨⟨y1, y2⟩, ⟨a1, a2⟩, ⟨o1, o2⟩, ⟨b1, b2⟩, ⟨c1, c2⟩, ⟨d1, d2⟩, ⟨e1, e2⟩⟩ := hx
  obtain ⟨⟨s1, s2⟩, ⟨t1, t2⟩, ⟨p1, p2⟩, ⟨r1, r2⟩, ⟨n1, n2⟩⟩ := hr
  rcases ht with rfl | rfl | rfl | rfl | rfl | rfl | rfl | rfl | rfl | rfl | rfl | rfl
  all_goals simp [goodE, Evt.okV, most, bnd, Evt.f, evF, upd, u64]
  all_goals omega
theorem allE_eq (x : Evt) (hx : x.Ok) (hr : x.Rg) (k : Int) (h1 : 1 ≤ k) (h5 : k ≤ 5) : (tagsL (64 + k)).all (goodE x) = inB (tagsL (64 + k)) x.f := by
  unfold inB
  have h : ∀ t ∈ tagsL (64 + k), goodE x t = decide (x.f t ≤ bnd t) := fun t ht => goodE_eq x hx hr t (ev_tag h1 h5 ht)
  generalize tagsL (64 + k) = L at h
  induction L with
  | nil => rfl
  | cons a L ih =>
    rw [List.all_cons, List.all_cons, h a (by simp), ih (fun t ht => h t (by simp [ht]))]
theorem vlE_iff (y x : Evt) : y.v = x.v ↔ y.l = x.l := by
  unfold Evt.v eV Evt.l
  simp
def agnG (f : Int → Int) (kd : Int) (L : List Int) : Evt := L.foldl (fun y t => y.set t (f t)) (bareE kd)
theorem agnG_l (f : Int → Int) (kd : Int) (h1 : 1 ≤ kd) (h5 : kd ≤ 5) : (agnG f kd (tagsL (64 + kd))).l = evL (64 + kd) (only (tagsL (64 + kd)) f) := by
  obtain rfl | rfl | rfl | rfl | rfl : kd = 1 ∨ kd = 2 ∨ kd = 3 ∨ kd = 4 ∨ kd = 5 := by omega
  all_goals simp [agnG, tagsL, bareE, Evt.set, evL, only, Evt.l]
  all_goals simp [u32, s64, wrap64]
theorem toldE_iff (x : Evt) (hx : x.Ok) (hr : x.Rg) (h1 : 1 ≤ x.kd) (h5 : x.kd ≤ 5) : ((tagsL x.k).all (goodE x) = true ∧ (agnE x (tagsL x.k)).v = x.v) ↔ x.told = true := by
  have hk : x.k = 64 + x.kd := by unfold Evt.k; rw [if_pos ⟨h1, h5⟩]
  have e : (agnE x (tagsL x.k)).l = evL x.k (only (tagsL x.k) x.f) := by
    rw [hk]
    exact agnG_l x.f x.kd h1 h5
  have e2 : (tagsL x.k).all (goodE x) = inB (tagsL x.k) x.f := by rw [hk]; exact allE_eq x hx hr x.kd h1 h5
  rw [e2, vlE_iff, e]
  unfold Evt.told Evt.F
  simp
theorem valuesE_zero (x : Evt) (w : World) (h : ¬ (1 ≤ x.kd ∧ x.kd ≤ 5)) : Calls Tryz.prog 46 #[.agg x.v] w fun e w' => e = .returned (.tuple #[.slice none 0 0, .int .i64 41]) ∧ Below w.heap.size w w' := by
  have NA := hid (fun w => told_no x.kd h w)
  clear h
  unfold Evt.v eV at *
  go_enter Tryz.func46, Tryz.ntmps46
  go_wp2_with (first | (go_at_call 27; refine (NA.out _).mono ?_; rintro e w2 ⟨rfl, hb⟩; have HB2 := hid hb; clear hb; refine Hid.out ?_))
  refine hid ?_
  go_wp2
  go_ret2
  exact ⟨rfl, btr (ball _ _) HB2.out⟩
theorem valuesE_bad (x : Evt) (hx : x.Ok) (hr : x.Rg) (w : World) (h : ¬ x.e = 0) : Calls Tryz.prog 46 #[.agg x.v] w fun e w' => e = .returned (.tuple #[.slice none 0 0, .int .i64 x.e]) ∧ Below w.heap.size w w' := by
  by_cases h0 : x.k = 0
  · have : x.e = 41 := by unfold Evt.e; rw [if_pos h0]
    rw [this]
    refine valuesE_zero x w (fun hh => ?_)
    unfold Evt.k at h0
    rw [if_pos hh] at h0
    omega
  · obtain ⟨h1, h5, hk⟩ := kE_cases x h0
    have ht : x.told = false := by
      cases ht : x.told
      · rfl
      · exfalso; apply h; unfold Evt.e; rw [if_neg h0, ht]; rfl
    have he : x.e = 40 := by unfold Evt.e; rw [if_neg h0, ht]; rfl
    rw [he]
    refine (valuesE_any x hx w h1 h5).mono ?_
    rintro e w' ⟨hb, ⟨_, rfl⟩ | ⟨hy, _⟩⟩
    · exact ⟨rfl, hb⟩
    · rw [toldE_iff x hx hr h1 h5, ht] at hy; cases hy
theorem valuesE_ok (x : Evt) (hx : x.Ok) (hr : x.Rg) (w : World) (h : x.e = 0) : Calls Tryz.prog 46 #[.agg x.v] w fun e w' => ∃ p cp, e = .returned (.tuple #[.slice p (tagsL x.k).length cp, .int .i64 0]) ∧ Su w' p ((tagsL x.k).map x.f) ∧ Below w.heap.size w w' := by
  obtain ⟨h0, ht⟩ := eE_zero x h
  obtain ⟨h1, h5, hk⟩ := kE_cases x h0
  refine (valuesE_any x hx w h1 h5).mono ?_
  rintro e w' ⟨hb, ⟨hn, _⟩ | ⟨_, p, cp, rfl, hs⟩⟩
  · exact absurd ((toldE_iff x hx hr h1 h5).2 ht) hn
  · exact ⟨p, cp, rfl, hs, hb⟩
end Go.Proofs.YtjgjoohdocjpkaaGreatDoor.Msg
namespace Go.Proofs.YtjgjoohdocjpkaaGreatDoor.Msg
open Go.RowKit Go.Maps Go.Deep Go.Lib
set_option linter.unusedVariables false
set_option linter.unusedSimpArgs false
set_option maxRecDepth 100000
def zeroE : Evt := ⟨0, 0, 0, 0, 0, 0, 0, 0, 0, 0, 0, 0, 0⟩
theorem setE_ok (x : Evt) (hx : x.Ok) (hr : x.Rg) (t n : Int) (hn : Wd n) : (x.set t n).Ok ∧ (x.set t n).Rg := by
  unfold Evt.set
  by_cases h34 : t = 34
  · rw [if_pos h34]
    exact ⟨⟨by first | exact hn | exact hx.sq, by first | exact hn | exact hx.id, by first | exact hn | exact hx.ot, by first | exact hn | exact hx.tg, by first | exact hx.me | (simp only [u32]; omega), by first | exact hn | exact hx.qt, by first | exact hn | exact hx.pe⟩, ⟨by first | exact s64_rg n | exact hr.si, by first | exact s64_rg n | exact hr.ty, by first | exact s64_rg n | exact hr.pr, by first | exact s64_rg n | exact hr.re, by first | exact s64_rg n | exact hr.co⟩⟩
  rw [if_neg h34]
  by_cases h11 : t = 11
  · rw [if_pos h11]
    exact ⟨⟨by first | exact hn | exact hx.sq, by first | exact hn | exact hx.id, by first | exact hn | exact hx.ot, by first | exact hn | exact hx.tg, by first | exact hx.me | (simp only [u32]; omega), by first | exact hn | exact hx.qt, by first | exact hn | exact hx.pe⟩, ⟨by first | exact s64_rg n | exact hr.si, by first | exact s64_rg n | exact hr.ty, by first | exact s64_rg n | exact hr.pr, by first | exact s64_rg n | exact hr.re, by first | exact s64_rg n | exact hr.co⟩⟩
  rw [if_neg h11]
  by_cases h41 : t = 41
  · rw [if_pos h41]
    exact ⟨⟨by first | exact hn | exact hx.sq, by first | exact hn | exact hx.id, by first | exact hn | exact hx.ot, by first | exact hn | exact hx.tg, by first | exact hx.me | (simp only [u32]; omega), by first | exact hn | exact hx.qt, by first | exact hn | exact hx.pe⟩, ⟨by first | exact s64_rg n | exact hr.si, by first | exact s64_rg n | exact hr.ty, by first | exact s64_rg n | exact hr.pr, by first | exact s64_rg n | exact hr.re, by first | exact s64_rg n | exact hr.co⟩⟩
  rw [if_neg h41]
  by_cases h37 : t = 37
  · rw [if_pos h37]
    exact ⟨⟨by first | exact hn | exact hx.sq, by first | exact hn | exact hx.id, by first | exact hn | exact hx.ot, by first | exact hn | exact hx.tg, by first | exact hx.me | (simp only [u32]; omega), by first | exact hn | exact hx.qt, by first | exact hn | exact hx.pe⟩, ⟨by first | exact s64_rg n | exact hr.si, by first | exact s64_rg n | exact hr.ty, by first | exact s64_rg n | exact hr.pr, by first | exact s64_rg n | exact hr.re, by first | exact s64_rg n | exact hr.co⟩⟩
  rw [if_neg h37]
  by_cases h1 : t = 1
  · rw [if_pos h1]
    exact ⟨⟨by first | exact hn | exact hx.sq, by first | exact hn | exact hx.id, by first | exact hn | exact hx.ot, by first | exact hn | exact hx.tg, by first | exact hx.me | (simp only [u32]; omega), by first | exact hn | exact hx.qt, by first | exact hn | exact hx.pe⟩, ⟨by first | exact s64_rg n | exact hr.si, by first | exact s64_rg n | exact hr.ty, by first | exact s64_rg n | exact hr.pr, by first | exact s64_rg n | exact hr.re, by first | exact s64_rg n | exact hr.co⟩⟩
  rw [if_neg h1]
  by_cases h38 : t = 38
  · rw [if_pos h38]
    exact ⟨⟨by first | exact hn | exact hx.sq, by first | exact hn | exact hx.id, by first | exact hn | exact hx.ot, by first | exact hn | exact hx.tg, by first | exact hx.me | (simp only [u32]; omega), by first | exact hn | exact hx.qt, by first | exact hn | exact hx.pe⟩, ⟨by first | exact s64_rg n | exact hr.si, by first | exact s64_rg n | exact hr.ty, by first | exact s64_rg n | exact hr.pr, by first | exact s64_rg n | exact hr.re, by first | exact s64_rg n | exact hr.co⟩⟩
  rw [if_neg h38]
  by_cases h210 : t = 210
  · rw [if_pos h210]
    exact ⟨⟨by first | exact hn | exact hx.sq, by first | exact hn | exact hx.id, by first | exact hn | exact hx.ot, by first | exact hn | exact hx.tg, by first | exact hx.me | (simp only [u32]; omega), by first | exact hn | exact hx.qt, by first | exact hn | exact hx.pe⟩, ⟨by first | exact s64_rg n | exact hr.si, by first | exact s64_rg n | exact hr.ty, by first | exact s64_rg n | exact hr.pr, by first | exact s64_rg n | exact hr.re, by first | exact s64_rg n | exact hr.co⟩⟩
  rw [if_neg h210]
  by_cases h54 : t = 54
  · rw [if_pos h54]
    exact ⟨⟨by first | exact hn | exact hx.sq, by first | exact hn | exact hx.id, by first | exact hn | exact hx.ot, by first | exact hn | exact hx.tg, by first | exact hx.me | (simp only [u32]; omega), by first | exact hn | exact hx.qt, by first | exact hn | exact hx.pe⟩, ⟨by first | exact s64_rg n | exact hr.si, by first | exact s64_rg n | exact hr.ty, by first | exact s64_rg n | exact hr.pr, by first | exact s64_rg n | exact hr.re, by first | exact s64_rg n | exact hr.co⟩⟩
  rw [if_neg h54]
  by_cases h40 : t = 40
  · rw [if_pos h40]
    exact ⟨⟨by first | exact hn | exact hx.sq, by first | exact hn | exact hx.id, by first | exact hn | exact hx.ot, by first | exact hn | exact hx.tg, by first | exact hx.me | (simp only [u32]; omega), by first | exact hn | exact hx.qt, by first | exact hn | exact hx.pe⟩, ⟨by first | exact s64_rg n | exact hr.si, by first | exact s64_rg n | exact hr.ty, by first | exact s64_rg n | exact hr.pr, by first | exact s64_rg n | exact hr.re, by first | exact s64_rg n | exact hr.co⟩⟩
  rw [if_neg h40]
  by_cases h44 : t = 44
  · rw [if_pos h44]
    exact ⟨⟨by first | exact hn | exact hx.sq, by first | exact hn | exact hx.id, by first | exact hn | exact hx.ot, by first | exact hn | exact hx.tg, by first | exact hx.me | (simp only [u32]; omega), by first | exact hn | exact hx.qt, by first | exact hn | exact hx.pe⟩, ⟨by first | exact s64_rg n | exact hr.si, by first | exact s64_rg n | exact hr.ty, by first | exact s64_rg n | exact hr.pr, by first | exact s64_rg n | exact hr.re, by first | exact s64_rg n | exact hr.co⟩⟩
  rw [if_neg h44]
  by_cases h378 : t = 378
  · rw [if_pos h378]
    exact ⟨⟨by first | exact hn | exact hx.sq, by first | exact hn | exact hx.id, by first | exact hn | exact hx.ot, by first | exact hn | exact hx.tg, by first | exact hx.me | (simp only [u32]; omega), by first | exact hn | exact hx.qt, by first | exact hn | exact hx.pe⟩, ⟨by first | exact s64_rg n | exact hr.si, by first | exact s64_rg n | exact hr.ty, by first | exact s64_rg n | exact hr.pr, by first | exact s64_rg n | exact hr.re, by first | exact s64_rg n | exact hr.co⟩⟩
  rw [if_neg h378]
  by_cases h103 : t = 103
  · rw [if_pos h103]
    exact ⟨⟨by first | exact hn | exact hx.sq, by first | exact hn | exact hx.id, by first | exact hn | exact hx.ot, by first | exact hn | exact hx.tg, by first | exact hx.me | (simp only [u32]; omega), by first | exact hn | exact hx.qt, by first | exact hn | exact hx.pe⟩, ⟨by first | exact s64_rg n | exact hr.si, by first | exact s64_rg n | exact hr.ty, by first | exact s64_rg n | exact hr.pr, by first | exact s64_rg n | exact hr.re, by first | exact s64_rg n | exact hr.co⟩⟩
  rw [if_neg h103]
  exact ⟨hx, hr⟩
theorem agnG_ok (f : Int → Int) (hf : ∀ t, Wd (f t)) (kd : Int) (L : List Int) : (agnG f kd L).Ok ∧ (agnG f kd L).Rg := by
  have hb : (bareE kd).Ok ∧ (bareE kd).Rg := by
    unfold bareE
    exact ⟨⟨by simp [Wd], by simp [Wd], by simp [Wd], by simp [Wd], by simp, by simp [Wd], by simp [Wd]⟩, ⟨by simp, by simp, by simp, by simp, by simp⟩⟩
  unfold agnG
  generalize bareE kd = y at hb
  induction L generalizing y with
  | nil => exact hb
  | cons t L ih => exact ih _ (setE_ok y hb.1 hb.2 t (f t) (hf t))
end Go.Proofs.YtjgjoohdocjpkaaGreatDoor.Msg
namespace Go.Proofs.YtjgjoohdocjpkaaGreatDoor.Msg
open Go.RowKit Go.Deep Go.Lib
set_option linter.unusedVariables false
set_option linter.unusedSimpArgs false
theorem upd_wd {f : Int → Int} (hf : ∀ t, Wd (f t)) (s : Int) {c : Int} (hc : Wd c) : ∀ t, Wd (upd f s c t) := by
  intro t
  unfold upd
  split
  · exact hc
  · exact hf t

theorem me_wd {x : Int} (h : 0 ≤ x ∧ x < 4294967296) : Wd x := by unfold Wd; omega
theorem FE_wd (x : Evt) (hx : x.Ok) (t : Int) : Wd (x.F t) := by
  obtain ⟨h0, h1, h2, h3, h4, h5, h6⟩ := hx
  unfold Evt.F only
  split
  · unfold Evt.f evF
    exact upd_wd (upd_wd (upd_wd (upd_wd (upd_wd (upd_wd (upd_wd (upd_wd (upd_wd (upd_wd (upd_wd (upd_wd (fun _ => by simp [Wd]) _ h0) _ h1) _ h2) _ h3) _ (me_wd h4)) _ (u64_wd _)) _ (u64_wd _)) _ (u64_wd _)) _ h5) _ h6) _ (u64_wd _)) _ (u64_wd _) t
  · simp [Wd]
theorem kd_inp (x : Inp) (h : x.e = 0) : Kd x.k := Or.inl (k_range x (e_zero x h).1)
theorem kd_evt (x : Evt) (h : x.e = 0) : Kd x.k ∧ 65 ≤ x.k ∧ x.k ≤ 69 ∧ x.k - 64 = x.kd := by
  obtain ⟨h1, h5, hk⟩ := kE_cases x (eE_zero x h).1
  exact ⟨Or.inr (by omega), by omega, by omega, by omega⟩
/-- an input's line. -/
def lnT (x : Inp) : List (Int × List UInt8) := ltL x.k x.F (tagsL x.k)
def lnB (x : Inp) : List UInt8 := if x.e = 0 then lineB (lineK x.k) (lnT x) else []
def lnTE (x : Evt) : List (Int × List UInt8) := ltL x.k x.F (tagsL x.k)
def lnE (x : Evt) : List UInt8 := if x.e = 0 then lineB (lineK x.k) (lnTE x) else []
/-- the input that stands in a line. -/
def rlI (k : Int) (l : List (Int × List UInt8)) : Inp := agnF (nmF l) k (tagsL k)
def rlE (k : Int) (l : List (Int × List UInt8)) : Evt := agnG (nmF l) (k - 64) (tagsL k)
theorem rlI_ok (k : Int) (l : List (Int × List UInt8)) : (rlI k l).Ok ∧ (rlI k l).Rg := agnF_ok _ (nmF_wd l) k _
theorem rlE_ok (k : Int) (l : List (Int × List UInt8)) : (rlE k l).Ok ∧ (rlE k l).Rg := agnG_ok _ (nmF_wd l) _ _
theorem rlI_l (k : Int) (l : List (Int × List UInt8)) (h1 : 1 ≤ k) (h4 : k ≤ 4) : (rlI k l).l = iL k (only (tagsL k) (nmF l)) := agnF_l _ k h1 h4
theorem rlE_l (k : Int) (l : List (Int × List UInt8)) (h1 : 65 ≤ k) (h4 : k ≤ 69) : (rlE k l).l = evL k (only (tagsL k) (nmF l)) := by
  have h := agnG_l (nmF l) (k - 64) (by omega) (by omega)
  rw [show 64 + (k - 64) = k by omega] at h
  exact h
theorem inpV_rl (k : Int) (l : List (Int × List UInt8)) (h1 : 1 ≤ k) (h4 : k ≤ 4) : inpV k (only (tagsL k) (nmF l)) = (rlI k l).v := (iL_iff k _ (rlI k l)).1 (rlI_l k l h1 h4).symm
theorem evtV_rl (k : Int) (l : List (Int × List UInt8)) (h1 : 65 ≤ k) (h4 : k ≤ 69) : evtV k (only (tagsL k) (nmF l)) = (rlE k l).v := (evL_iff k _ (rlE k l)).1 (rlE_l k l h1 h4).symm
/-- what ReadLine says. -/
noncomputable def rlR (b : List UInt8) : Inp × Nat × Int :=
  if (decR b).2.2.2 ≠ 0 then (zeroI, (decR b).2.2.1, (decR b).2.2.2) else
  match inK (decR b).1 with
  | none => (zeroI, 0, 41)
  | some k => if (rlI k (decR b).2.1).e = 0 ∧ lnB (rlI k (decR b).2.1) = b.take (decR b).2.2.1 then (rlI k (decR b).2.1, (decR b).2.2.1, 0) else (zeroI, 0, 40)
noncomputable def reR (b : List UInt8) : Evt × Nat × Int :=
  if (decR b).2.2.2 ≠ 0 then (zeroE, (decR b).2.2.1, (decR b).2.2.2) else
  match evK (decR b).1 (decR b).2.1 with
  | none => (zeroE, 0, 41)
  | some k => if (rlE k (decR b).2.1).e = 0 ∧ lnE (rlE k (decR b).2.1) = b.take (decR b).2.2.1 then (rlE k (decR b).2.1, (decR b).2.2.1, 0) else (zeroE, 0, 40)
end Go.Proofs.YtjgjoohdocjpkaaGreatDoor.Msg
namespace Go.Proofs.YtjgjoohdocjpkaaGreatDoor.Msg
open Go.RowKit Go.Maps Go.Deep Go.Lib
set_option linter.unusedVariables false
set_option linter.unusedSimpArgs false
theorem Own.down {B B0 : Nat} {W1 W0 w : World} {v : Value} {l : List UInt8} (h : Own B W0 w v l) (hb : Below B0 W1 W0) (hB : B0 ≤ B) : Own B0 W1 w v l := by
  obtain ⟨⟨h1, h2⟩, h3, h4⟩ := h
  refine ⟨⟨h1, ?_⟩, hb.trans (h3.mono hB), Nat.le_trans hB h4⟩
  rcases h2 with h2 | ⟨g, cap, cur, e, hg, r⟩
  · exact Or.inl h2
  · exact Or.inr ⟨g, cap, cur, e, Nat.le_trans hB hg, r⟩
theorem linekind_any (k : Int) (w : World) : Calls Tryz.prog 34 #[.int .u8 k] w fun e w' => e = .returned (.string ⟨(lineK k).toArray⟩) ∧ w' = w := by
  unfold lineK
  by_cases h1 : k = 1
  · subst h1
    go_enter Tryz.func34, Tryz.ntmps34
    go_wp2
    go_ret
    exact ⟨by simp, rfl⟩
  by_cases h2 : k = 2
  · subst h2
    go_enter Tryz.func34, Tryz.ntmps34
    go_wp2
    go_ret
    exact ⟨by simp, rfl⟩
  by_cases h3 : k = 3
  · subst h3
    go_enter Tryz.func34, Tryz.ntmps34
    go_wp2
    go_ret
    exact ⟨by simp, rfl⟩
  by_cases h4 : k = 4
  · subst h4
    go_enter Tryz.func34, Tryz.ntmps34
    go_wp2
    go_ret
    exact ⟨by simp, rfl⟩
  have g1 : (k == 1) = false := by simpa using h1
  have g2 : (k == 2) = false := by simpa using h2
  have g3 : (k == 3) = false := by simpa using h3
  have g4 : (k == 4) = false := by simpa using h4
  rw [if_neg h1, if_neg h2, if_neg h3, if_neg h4]
  clear h1 h2 h3 h4
  go_enter Tryz.func34, Tryz.ntmps34
  go_wp2
  go_ret
  exact ⟨rfl, rfl⟩
theorem tag34 {k : Int} (h : Kd k) (ht : (34 : Int) ∈ tagsL k) : 65 ≤ k ∧ k ≤ 69 := by
  rcases kd_cases h with rfl | rfl | rfl | rfl | rfl | rfl | rfl | rfl | rfl
  all_goals first | (exfalso; revert ht; decide) | decide
theorem dec_call (x : Int) (hx : Wd x) (w : World) (hL : Lay w) : Calls Tryz.prog 57 #[.int .u64 x] w fun e w' => e = .returned (.string ⟨(decDigits x.toNat).toArray⟩) ∧ Below w.heap.size w w' := by
  unfold Wd at hx
  have h := decimal_any x.toNat (by omega) w hL
  rw [show ((x.toNat : Nat) : Int) = x by omega] at h
  exact h
theorem lt_le (k : Int) (F : Int → Int) : ∀ L : List Int, (ltL k F L).length ≤ 2 * L.length
  | [] => by simp [ltL]
  | t :: L => by
    have := lt_le k F L
    unfold ltL at this ⊢
    rw [List.flatMap_cons, List.length_append, List.length_cons]
    have h2 : (tagT k F t).length ≤ 2 := by unfold tagT; split <;> simp
    omega
set_option maxHeartbeats 2000000 in
set_option maxRecDepth 100000 in
theorem line_any (k : Int) (hk : Kd k) (b n : Nat) (F : Int → Int) (hW : ∀ t, Wd (F t)) (w : World) (hF : Fm w b n F) (hL : Lay w) :
    Calls Tryz.prog 38 #[.agg #[.int .u8 k, .map (some b)]] w fun e w' => ∃ v, e = .returned (.tuple #[v, .int .i64 0]) ∧ Own w.heap.size w w' v (lineB (lineK k) (ltL k F (tagsL k))) := by
  have HE := hid (enc_line hk F hW)
  have EN := hid (fun q cap w hc hm hT hL => encode_any (lineK k) (ltL k F (tagsL k)) q cap w (by have := lineK_len k; omega) (fun x hx => by have := (lt_vals hk F hW x hx).2; omega) (by have := (lt_tags hk F).2.1; omega) hc hm hT hL)
  have hEB : encB (lineK k) (ltL k F (tagsL k)) = lineB (lineK k) (ltL k F (tagsL k)) := by unfold encB; rw [if_pos HE.out]
  rw [HE.out, hEB] at EN
  have LK := hid (fun w => linekind_any k w)
  have TA := hid (fun w => tags_any k w)
  have hlen := tags_len k
  have HIN := hid (tags_in k)
  have H34 := hid (fun ht => tag34 hk ht)
  have DC := hid (fun t w hL => dec_call (F t) (hW t) w hL)
  obtain ⟨L, hLL⟩ : ∃ l, tagsL k = l := ⟨_, rfl⟩
  obtain ⟨KL, hKL⟩ : ∃ l, lineK k = l := ⟨_, rfl⟩
  unfold TagsP at TA
  rw [hLL] at EN TA hlen HIN H34 ⊢
  rw [hKL] at EN LK ⊢
  obtain ⟨OUT, hOUT⟩ : ∃ l, lineB KL (ltL k F L) = l := ⟨_, rfl⟩
  rw [hOUT] at EN ⊢
  have HFw := hid (hF.on (ball w (.cells #[.int .u8 k, .map (some b)] 46)))
  have HLw := hid (hL.on (ball w (.cells #[.int .u8 k, .map (some b)] 46)))
  have HR := hid (heap_alloc_new w (.cells #[.int .u8 k, .map (some b)] 46))
  clear hk hF hL HE hEB hLL hKL hOUT
  go_enter Tryz.func38, Tryz.ntmps38
  go_wp2_with (first | (go_at_call 35; refine (TA.out _).mono ?_; rintro e w2 ⟨q, cap, rfl, hS, hb⟩; have HS := hid hS; have HB2 := hid hb; clear hS hb; refine Hid.out ?_))
  have HF2 := hid (HFw.out.on HB2.out)
  have HL2 := hid (HLw.out.on HB2.out)
  have HR2 := hid (row_on HR.out HB2.out)
  have HBW := hid (btr (ball w (.cells #[.int .u8 k, .map (some b)] 46)) HB2.out)
  clear HFw HLw HR HB2 TA
  refine hid ?_
  go_wp2
  go_loopw [4, 11] (fun lv iv wr => ∃ j : Nat, j ≤ L.length ∧ iv = .int .i64 j ∧ Hid (OwnT w2.heap.size w2 wr lv (ltL k F (L.take j)))) (fun _ iv _ => L.length - (RowKit.intOf iv).toNat)
  case atStart => exact ⟨0, Nat.zero_le _, rfl, hid (by simpa [ltL] using ownT_nil w2)⟩
  case round =>
    obtain ⟨j, hj, rfl, HO⟩ := hrel
    by_cases hjl : j < L.length
    · have hjl' : (j : Int) < (L.length : Int) := by omega
      have hj0 : (0 : Int) ≤ (j : Int) := by omega
      obtain ⟨qb, qo, rfl, hcell2⟩ := HS.out j hjl
      have hcell : wr.cell? ⟨qb, qo + j, none⟩ = some (.int .i64 L[j]) := (HO.out.2.1.cell (cell_lt hcell2)).trans hcell2
      have HST := hid (ltL_step k F L j hjl)
      have hti := HIN.out L[j] (List.getElem_mem hjl)
      have h34 := H34.out
      have hmem : L[j] ∈ L := List.getElem_mem hjl
      obtain ⟨t, ht⟩ : ∃ t, L[j] = t := ⟨_, rfl⟩
      rw [ht] at hcell HST hti hmem
      have hwt := wf_tag hti
      have hm2 : wr.cell? ⟨w.heap.size, 1, none⟩ = some (.map (some b)) := row_cell (row_on HR2.out HO.out.2.1) 1
      have hm0 : wr.cell? ⟨w.heap.size, 0, none⟩ = some (.int .u8 k) := row_cell (row_on HR2.out HO.out.2.1) 0
      have HFr := hid (HF2.out.on HO.out.2.1)
      have HLr := hid (HL2.out.on HO.out.2.1)
      have hll : (ltL k F (L.take j)).length ≤ 900 := by
        have := lt_le k F (L.take j)
        rw [List.length_take] at this
        omega
      clear ht hcell2
      obtain ⟨l, hl⟩ : ∃ l, ltL k F (L.take j) = l := ⟨_, rfl⟩
      rw [hl] at HO HST hll
      clear hl
      by_cases h3 : t = 34
      · subst h3
        obtain ⟨k1, k2⟩ := h34 hmem
        have hs34 : tagT k F 34 = [(34, decDigits (F 34).toNat), (150, decDigits (k - 64).toNat)] := by unfold tagT; rw [if_pos rfl]
        rw [hs34] at HST
        have e1 : IntKind.u8.wrap (k - 64) = k - 64 := by rw [IntKind.wrap_u8]; omega
        have e2 : (k - 64) % 18446744073709551616 = k - 64 := by omega
        have DK := hid (fun w hL => dec_call (k - 64) (by unfold Wd; omega) w hL)
        clear hs34 h34
        go_wp2_with (first
          | (at_lookup; refine wpList_fm_look _ rfl _ _ rfl b n F _ rfl rfl HFr.out hwt ?_)
          | (go_at_call 57; refine (DC.out 34 _ HLr.out).mono ?_; rintro e w3 ⟨rfl, hb⟩; have HO3 := hid (HO.out.on hb); clear hb; refine Hid.out ?_))
        refine hid ?_
        go_wp2_with (first
          | (at_builtin; refine own_tag (by rfl) (.tmp 15) (.tmp 23) (by rfl) w2.heap.size _ l (by rfl) w2 w3 34 (decDigits (F 34).toNat) HO3.out (by rfl) (by omega) ?_; intro v4 w4 hO4; have HO4 := hid hO4; clear hO4; refine Hid.out ?_))
        have hm4 : w4.cell? ⟨w.heap.size, 0, none⟩ = some (.int .u8 k) := row_cell (row_on HR2.out HO4.out.2.1) 0
        have HL4 := hid (HL2.out.on HO4.out.2.1)
        clear hm2 hm0 hcell
        refine hid ?_
        go_wp2_with (first
          | (go_at_call 57; refine (DK.out _ HL4.out).mono ?_; rintro e w5 ⟨rfl, hb⟩; have HO5 := hid (HO4.out.on hb); clear hb; refine Hid.out ?_))
        refine hid ?_
        go_wp2_with (first
          | (at_builtin; refine own_tag (by rfl) (.tmp 27) (.tmp 34) (by rfl) w2.heap.size _ (l ++ [(34, decDigits (F 34).toNat)]) (by rfl) w2 w5 150 (decDigits (k - 64).toNat) HO5.out (by rfl) (by simp; omega) ?_; intro v6 w6 hO6; have HO6 := hid hO6; clear hO6; refine Hid.out ?_))
        refine hid ?_
        go_wp2
        go_roundw
        case rel => exact ⟨j + 1, by omega, by go_num, hid (by rw [HST.out]; simpa using HO6.out)⟩
        case measure => simp [RowKit.intOf]; omega
      · have hs34 : tagT k F t = [(t, decDigits (F t).toNat)] := by unfold tagT; rw [if_neg h3]
        rw [hs34] at HST
        have h3f : (t == 34) = false := by simpa using h3
        clear hs34 h34 h3
        go_wp2_with (first
          | (at_lookup; refine wpList_fm_look _ rfl _ _ rfl b n F _ rfl rfl HFr.out hwt ?_)
          | (go_at_call 57; refine (DC.out t _ HLr.out).mono ?_; rintro e w3 ⟨rfl, hb⟩; have HO3 := hid (HO.out.on hb); clear hb; refine Hid.out ?_))
        refine hid ?_
        go_wp2_with (first
          | (at_builtin; refine own_tag (by rfl) (.tmp 15) (.tmp 23) (by rfl) w2.heap.size _ l (by rfl) w2 w3 t (decDigits (F t).toNat) HO3.out (by rfl) (by omega) ?_; intro v4 w4 hO4; have HO4 := hid hO4; clear hO4; refine Hid.out ?_))
        refine hid ?_
        go_wp2
        go_roundw
        case rel => exact ⟨j + 1, by omega, by go_num, hid (by rw [HST.out]; exact HO4.out)⟩
        case measure => simp [RowKit.intOf]; omega
    · have hje : j = L.length := by omega
      subst hje
      have hfin := HO.out
      rw [List.take_length] at hfin
      have HO2 := hid hfin
      clear hfin HO
      obtain ⟨ql, cl, rfl, hTl, hcl, hml⟩ := HO2.out.form
      have HT := hid hTl
      have hm0 : wr.cell? ⟨w.heap.size, 0, none⟩ = some (.int .u8 k) := row_cell (row_on HR2.out HO2.out.2.1) 0
      have HLr := hid (HL2.out.on HO2.out.2.1)
      have HBr := hid (btr HBW.out HO2.out.2.1)
      clear hTl
      go_wp2_with (first
        | (go_at_call 34; refine (LK.out _).mono ?_; rintro e w3 ⟨rfl, rfl⟩)
        | (go_at_call 58; refine (EN.out _ _ _ hcl hml HT.out HLr.out).mono ?_; rintro e w4 ⟨v, rfl, hO, hn⟩; have HOO := hid hO; clear hO hn; refine Hid.out ?_))
      refine hid ?_
      go_wp2
      go_ret2
      exact ⟨v, by simp, Own.down HOO.out HBr.out HBr.out.size⟩
end Go.Proofs.YtjgjoohdocjpkaaGreatDoor.Msg
namespace Go.Proofs.YtjgjoohdocjpkaaGreatDoor.Msg
open Go.RowKit Go.Maps Go.Deep Go.Lib
set_option linter.unusedVariables false
set_option linter.unusedSimpArgs false
theorem conv_any {w : World} {q : Option Addr} {l : List UInt8} (h : Sb w q l) (c : Nat) : (convert 22 9 (.slice q l.length c)).run Tryz.prog w = .ok (.string ⟨l.toArray⟩) w := by
  cases q with
  | none =>
    have hl : l = [] := by
      cases l with
      | nil => rfl
      | cons x l => obtain ⟨b, o, e, _⟩ := h 0 (by simp); cases e
    subst hl
    rw [List.length_nil, run_convert_bytes_nil w 22 5 Tryz.underlying22 Tryz.underlying5 0 c 9 Tryz.underlying9]
    rfl
  | some a =>
    exact run_convert_bytes_back (P := Tryz.prog) w 22 9 5 a c l Tryz.underlying22 Tryz.underlying5 Tryz.underlying9 (fun j hj => by
      obtain ⟨b, o, e, h0⟩ := h j hj
      simp only [Option.some.injEq] at e
      subst e
      rw [Addr.add_mid]
      exact h0)
theorem equal_any (l m : List UInt8) (q r : Option Addr) (c d : Nat) (w : World) (h1 : Sb w q l) (h2 : Sb w r m) :
    Calls Tryz.prog 15 #[.slice q l.length c, .slice r m.length d] w fun e w' => e = .returned (.bool (l == m)) ∧ w' = w := by
  have cv1 := conv_any h1 c
  have cv2 := conv_any h2 d
  go_enter Tryz.func15, Tryz.ntmps15
  go_wp2
  go_ret
  exact ⟨by simp, rfl⟩
set_option maxHeartbeats 1000000 in
theorem inputkind_any (kind : List UInt8) (w : World) :
    Calls Tryz.prog 11 #[.string ⟨kind.toArray⟩] w fun e w' => e = .returned (.tuple #[.int .u8 ((inK kind).getD 0), .bool (inK kind).isSome]) ∧ w' = w := by
  have LK := hid (fun k w => linekind_any k w)
  have II := hid (fun k w => isInput_any k w)
  go_enter Tryz.func11, Tryz.ntmps11
  go_wp2_with fail
  go_loopw [4] (fun kv wr => ∃ k : Nat, kv = .int .u8 k ∧ 1 ≤ k ∧ k ≤ 5 ∧ wr = w ∧ Hid (∀ i : Int, 1 ≤ i → i < k → lineK i ≠ kind)) (fun kv _ => 5 - (RowKit.intOf kv).toNat)
  case atStart => exact ⟨1, rfl, by omega, by omega, rfl, hid (fun i h1 h2 => by omega)⟩
  case round =>
    obtain ⟨k, rfl, h1, h5, rfl, HN⟩ := hrel
    by_cases hk : k = 5
    · subst hk
      have hno : inK kind = none := by
        have a1 := HN.out 1 (by omega) (by omega)
        have a2 := HN.out 2 (by omega) (by omega)
        have a3 := HN.out 3 (by omega) (by omega)
        have a4 := HN.out 4 (by omega) (by omega)
        unfold inK
        rw [if_neg (fun e => a1 (by rw [e]; rfl)), if_neg (fun e => a2 (by rw [e]; rfl)), if_neg (fun e => a3 (by rw [e]; rfl)), if_neg (fun e => a4 (by rw [e]; rfl))]
      have HNO := hid hno
      clear hno
      have I5 := hid (fun w => II.out (5 : Int) w)
      rw [show decide ((1 : Int) ≤ 5 ∧ (5 : Int) ≤ 4) = false by decide] at I5
      go_wp2_with (first | (go_at_call 33; refine (I5.out _).mono ?_; rintro e w' ⟨rfl, rfl⟩))
      go_ret2
      exact ⟨by rw [HNO.out]; simp, rfl⟩
    · have h4 : k ≤ 4 := by omega
      have IK := hid (fun w => II.out (k : Int) w)
      rw [show decide ((1 : Int) ≤ (k : Int) ∧ (k : Int) ≤ 4) = true by simp; omega] at IK
      have LL := hid (fun w => LK.out (k : Int) w)
      obtain ⟨KL, hKL⟩ : ∃ x, lineK (k : Int) = x := ⟨_, rfl⟩
      rw [hKL] at LL
      by_cases he : KL = kind
      · have hin : inK kind = some (k : Int) := by rw [← he, ← hKL]; exact inK_line (by omega) (by omega)
        have HNO := hid hin
        have hq : (KL == kind) = true := by simpa using he
        clear hin he hKL
        go_wp2_with (first | (go_at_call 33; refine (IK.out _).mono ?_; rintro e w' ⟨rfl, rfl⟩) | (go_at_call 34; refine (LL.out _).mono ?_; rintro e w' ⟨rfl, rfl⟩))
        go_ret2
        exact ⟨by rw [HNO.out]; simp, rfl⟩
      · have hq : (KL == kind) = false := by simpa using he
        have HN2 := hid (show ∀ i : Int, 1 ≤ i → i < ((k + 1 : Nat) : Int) → lineK i ≠ kind from fun i i1 i2 => by
          by_cases hi : i = (k : Int)
          · subst hi; rw [hKL]; exact he
          · exact HN.out i i1 (by omega))
        have hw : IntKind.u8.wrap ((k : Int) + 1) = ((k + 1 : Nat) : Int) := by rw [IntKind.wrap_u8]; omega
        clear he hKL HN
        go_wp2_with (first | (go_at_call 33; refine (IK.out _).mono ?_; rintro e w' ⟨rfl, rfl⟩) | (go_at_call 34; refine (LL.out _).mono ?_; rintro e w' ⟨rfl, rfl⟩))
        go_roundw
        case rel => exact ⟨k + 1, by first | rfl | (congr 1) | (simp; omega), by omega, by omega, by first | rfl | trivial, HN2⟩
        case measure => simp [RowKit.intOf]; omega
theorem Ts.mid {w : World} {b o : Nat} {l : List (Int × List UInt8)} (h : Ts w (some ⟨b, o, none⟩) l) (hl : 2 ≤ l.length) : Ts w (some ⟨b, o + 2, none⟩) ((l.drop 1).take 1) := by
  intro i hi
  have hi0 : i = 0 := by simp at hi; omega
  subst hi0
  obtain ⟨b', o', e, h0, h1⟩ := h 1 (by omega)
  obtain ⟨rfl, rfl⟩ : b = b' ∧ o = o' := by simpa using e
  refine ⟨b, o + 2, rfl, ?_, ?_⟩
  · simpa using h0
  · simpa using h1
set_option maxHeartbeats 1000000 in
theorem eventkind_any (kind : List UInt8) (l : List (Int × List UInt8)) (q : Option Addr) (cap : Nat) (w : World) (hl : l.length < 9223372036854775808) (hcap : l.length ≤ cap) (hcm : cap < 9223372036854775808) (hs : ∀ x ∈ l, x.2.length ≤ 281474976710656) (hT : Ts w q l) (hE : LayE w) :
    Calls Tryz.prog 23 #[.string ⟨kind.toArray⟩, .slice q l.length cap] w fun e w' => e = .returned (.tuple #[.int .u8 ((evK kind l).getD 0), .bool (evK kind l).isSome]) ∧ Below w.heap.size w w' := by
  by_cases hk : kind = [56]
  · subst hk
    by_cases h2 : 2 ≤ l.length
    · obtain ⟨b, o, rfl, h00, h01⟩ := hT 1 (by omega)
      have hml : ((l.drop 1).take 1).length = 1 := by simp; omega
      have NM := hid (fun c => tnumber_any ((l.drop 1).take 1) (some ⟨b, o + 2, none⟩) c 150 w (by omega) (fun x hx => hs x (List.mem_of_mem_drop (List.mem_of_mem_take hx))) (Ts.mid hT h2) hE)
      rw [hml] at NM
      have hev : evK [56] l = if (numOf ((l.drop 1).take 1) 150).2 = 0 ∧ 1 ≤ (numOf ((l.drop 1).take 1) 150).1 ∧ (numOf ((l.drop 1).take 1) 150).1 ≤ 5 then some (64 + ((numOf ((l.drop 1).take 1) 150).1 : Int)) else none := by unfold evK; rw [if_pos ⟨rfl, h2⟩]
      rw [hev]
      have hnw : (numOf ((l.drop 1).take 1) 150).1 < 18446744073709551616 := by
        have := nmF_wd ((l.drop 1).take 1) 150
        unfold nmF Wd at this
        omega
      obtain ⟨n, why, hnn⟩ : ∃ n y, numOf ((l.drop 1).take 1) 150 = (n, y) := ⟨_, _, rfl⟩
      rw [hnn] at NM hnw ⊢
      simp only at NM hnw ⊢
      have l2 : ¬ ((l.length : Int) < 2) := by omega
      have c0 : (2 : Int) ≤ (cap : Int) := by omega
      clear hev hnn h00 h01 hT hs hE
      by_cases hy : why = 0
      · subst hy
        by_cases n1 : 1 ≤ n
        · by_cases n5 : n ≤ 5
          · have g1 : ¬ ((n : Int) < 1) := by omega
            have g5 : ¬ ((5 : Int) < (n : Int)) := by omega
            have e1 : (n : Int) % 256 = (n : Int) := by omega
            have e2 : IntKind.u8.wrap (64 + (n : Int)) = 64 + (n : Int) := by rw [IntKind.wrap_u8]; omega
            rw [if_pos ⟨rfl, n1, n5⟩]
            go_enter Tryz.func23, Tryz.ntmps23
            go_wp2_with (first | (go_at_call 36; refine (NM.out _).mono ?_; rintro e w' ⟨rfl, hb⟩; have HB := hid hb; clear hb; refine Hid.out ?_))
            refine hid ?_
            go_wp2
            go_ret2
            exact ⟨by simp, HB.out⟩
          · have g1 : ¬ ((n : Int) < 1) := by omega
            have g5 : ((5 : Int) < (n : Int)) := by omega
            rw [if_neg (fun h => n5 h.2.2)]
            go_enter Tryz.func23, Tryz.ntmps23
            go_wp2_with (first | (go_at_call 36; refine (NM.out _).mono ?_; rintro e w' ⟨rfl, hb⟩; have HB := hid hb; clear hb; refine Hid.out ?_))
            refine hid ?_
            go_wp2
            go_ret2
            exact ⟨by simp, HB.out⟩
        · have g1 : ((n : Int) < 1) := by omega
          rw [if_neg (fun h => n1 h.2.1)]
          go_enter Tryz.func23, Tryz.ntmps23
          go_wp2_with (first | (go_at_call 36; refine (NM.out _).mono ?_; rintro e w' ⟨rfl, hb⟩; have HB := hid hb; clear hb; refine Hid.out ?_))
          refine hid ?_
          go_wp2
          go_ret2
          exact ⟨by simp, HB.out⟩
      · have g0 : (why != 0) = true := by simpa using hy
        rw [if_neg (fun h => hy h.1)]
        clear hy
        go_enter Tryz.func23, Tryz.ntmps23
        go_wp2_with (first | (go_at_call 36; refine (NM.out _).mono ?_; rintro e w' ⟨rfl, hb⟩; have HB := hid hb; clear hb; refine Hid.out ?_))
        refine hid ?_
        go_wp2
        go_ret2
        exact ⟨by simp, HB.out⟩
    · have hev : evK [56] l = none := by unfold evK; rw [if_neg (fun h => h2 h.2)]
      have l2 : ((l.length : Int) < 2) := by omega
      rw [hev]
      clear hev hT hs hE
      go_enter Tryz.func23, Tryz.ntmps23
      go_wp2
      go_ret2
      exact ⟨by simp, Below.refl _ _⟩
  · have hev : evK kind l = none := by unfold evK; rw [if_neg (fun h => hk h.1)]
    have g0 : (kind == [56]) = false := by simpa using hk
    rw [hev]
    clear hev hT hs hE
    go_enter Tryz.func23, Tryz.ntmps23
    go_wp2
    go_ret2
    exact ⟨by simp, Below.refl _ _⟩
structure RtR (w : World) (k : Int) (l : List (Int × List UInt8)) (q : Option Addr) (L : List Int) (j : Nat) (wr : World) : Prop where
  r0 : wr.heap[w.heap.size]? = some (.cells #[.int .u8 0, .map none] 46 (0, 0))
  m : Fm wr (w.heap.size + 1) j (only (L.take j) (nmF l))
  r2 : wr.heap[w.heap.size + 1 + 1]? = some (.cells #[.int .u8 k, .map (some (w.heap.size + 1))] 46 (0, 0))
  s : Sn wr q L
  bel : Below w.heap.size w wr
theorem RtR.step {w wr w1 w3 : World} {k : Int} {l : List (Int × List UInt8)} {q : Option Addr} {L : List Int} {j : Nat} (h : RtR w k l q L j wr) (hb : Below wr.heap.size wr w1) (hg : w1.grownBy w3 (some (w.heap.size + 1))) (hF : Fm w3 (w.heap.size + 1) (j + 1) (only (L.take (j + 1)) (nmF l))) : RtR w k l q L (j + 1) w3 :=
  ⟨row_grown (row_on h.r0 hb) hg (by omega), hF, row_grown (row_on h.r2 hb) hg (by omega), (h.s.on hb).grown (h.m.on hb) hg, (btr h.bel hb).grown hg (btr h.bel hb).size (fun i hi => by cases hi; omega)⟩
set_option maxHeartbeats 2000000 in
set_option maxRecDepth 100000 in
theorem readtags_any (k : Int) (l : List (Int × List UInt8)) (q : Option Addr) (cap : Nat) (w : World) (hl : l.length < 9223372036854775808) (hs : ∀ x ∈ l, x.2.length ≤ 281474976710656) (hT : Ts w q l) (hE : LayE w) :
    Calls Tryz.prog 12 #[.int .u8 k, .slice q l.length cap] w fun e w' => ∃ b n, e = .returned (.agg #[.int .u8 k, .map (some b)]) ∧ n ≤ 8 ∧ w.heap.size ≤ b ∧ Fm w' b n (only (tagsL k) (nmF l)) ∧ Below w.heap.size w w' := by
  have HT := hid hT
  have HE := hid hE
  have hmm := @run_makeMap Tryz.prog
  have TA := hid (fun w => tags_any k w)
  have hlen := tags_len k
  have HIN := hid (tags_in k)
  have NM := hid (fun t w hT hE => tnumber_any l q cap t w hl hs hT hE)
  have HWD := hid (nmF_wd l)
  clear hT hE hs
  go_enter Tryz.func12, Tryz.ntmps12
  go_wp2_with (first | (go_at_call 35; refine (TA.out _).mono ?_; rintro e w2 ⟨q2, cap2, rfl, hS, hb⟩; have HS := hid hS; have HB2 := hid hb; clear hS hb; refine Hid.out ?_))
  refine hid ?_
  obtain ⟨r0, r1, r2, hB⟩ := three _ _ _ _ HB2.out
  have M0 : Fm w2 (w.heap.size + 1) 0 (only ((tagsL k).take 0) (nmF l)) := by
    rw [List.take_zero, only_nil]
    exact ⟨.map [], ⟨#[], 0, r1, ⟨by simp, MapKept.stamped_empty 0, by simp⟩, Nat.le_refl _, rfl⟩, fun t => rfl⟩
  have PK := hid (show RtR w k l q2 (tagsL k) 0 w2 from ⟨r0, M0, r2, HS.out, hB⟩)
  clear r0 r1 r2 M0 HS HB2 TA hB
  obtain ⟨L, hL⟩ : ∃ l, tagsL k = l := ⟨_, rfl⟩
  rw [hL] at PK HIN hlen ⊢
  have HTL := hid hL
  clear hL
  go_wp2
  go_loopw [14] (fun iv wr => ∃ j : Nat, j ≤ L.length ∧ iv = .int .i64 j ∧ RtR w k l q2 L j wr) (fun iv _ => L.length - (RowKit.intOf iv).toNat)
  case atStart => exact ⟨0, Nat.zero_le _, rfl, PK.out⟩
  case round =>
    obtain ⟨j, hj, rfl, hpk⟩ := hrel
    have PJ := hid hpk
    clear hpk PK
    by_cases hjl : j < L.length
    · have hjl' : (j : Int) < (L.length : Int) := by omega
      have hj0 : (0 : Int) ≤ (j : Int) := by omega
      obtain ⟨qb, qo, rfl, hcell⟩ := PJ.out.s j hjl
      have HON := hid (only_step L (nmF l) j hjl)
      have hti := HIN.out L[j] (List.getElem_mem hjl)
      obtain ⟨t, ht⟩ : ∃ t, L[j] = t := ⟨_, rfl⟩
      rw [ht] at hcell HON hti
      clear ht
      have hwt := wf_tag hti
      have hm2 : wr.cell? ⟨w.heap.size + 1 + 1, 1, none⟩ = some (.map (some (w.heap.size + 1))) := row_cell PJ.out.r2 1
      have HBD := hid (show Below wr.heap.size wr wr.drew from Below.drew (Below.refl _ _))
      have HTr := hid ((HT.out.on PJ.out.bel).on HBD.out)
      have HEr := hid ((HE.out.on PJ.out.bel).on HBD.out)
      have N1 := hid (show Calls Tryz.prog 36 #[.slice q l.length cap, .int .i64 t] wr.drew fun e w' => e = .returned (.tuple #[.int .u64 (nmF l t), .int .i64 (numOf l t).2]) ∧ Below wr.drew.heap.size wr.drew w' from NM.out t wr.drew HTr.out HEr.out)
      obtain ⟨Y, hY⟩ : ∃ y, (numOf l t).2 = y := ⟨_, rfl⟩
      rw [hY] at N1
      have hwd := HWD.out t
      obtain ⟨c, hc⟩ : ∃ y, nmF l t = y := ⟨_, rfl⟩
      rw [hc] at N1 hwd HON
      clear hY hti hc
      go_wp2
      go_region_with (first | (go_at_call 36; refine N1.out.mono ?_; rintro e w1 ⟨rfl, hb⟩; (have HB1 := hid (show Below wr.heap.size wr w1 from btr HBD.out hb)); (have hm3 : w1.cell? ⟨w.heap.size + 1 + 1, 1, none⟩ = some (.map (some (w.heap.size + 1))) := row_cell (row_on PJ.out.r2 HB1.out) 1); (obtain ⟨w3, hput, hF3, hg3⟩ := (PJ.out.m.on HB1.out).put (by omega) t c hwt hwd); (have PN := hid (show RtR w k l (some ⟨qb, qo, none⟩) L (j + 1) w3 from PJ.out.step HB1.out hg3 (HON.out ▸ hF3))); clear hb hF3 hg3 hm2))
      all_goals
        go_wp2
        go_roundw
        case rel => exact ⟨j + 1, by omega, by go_num, PN.out⟩
        case measure => simp [RowKit.intOf]; omega
    · have hje : j = L.length := by omega
      subst hje
      have hp := PJ.out
      have hm := hp.m
      rw [List.take_length (l := L)] at hm
      have HM := hid hm
      have HZ := hp.r0
      have HZ2 := hp.r2
      have HBE := hid hp.bel
      clear hm hp PJ
      go_wp2_with (first
        | (refine wpList_load_row (by rfl) 46 (.tmp 5) (by rfl) (w.heap.size + 1 + 1) (by rfl) 46 #[.int .u8 k, .map (some (w.heap.size + 1))] (0, 0) _ HZ2 Tryz.underlying46 rfl info46 ?_)
        | (refine wpList_st (by rfl) 46 (.tmp 4) (.tmp 28) (by rfl) w.heap.size #[.int .u8 k, .map (some (w.heap.size + 1))] (by rfl) (by rfl) 46 #[.int .u8 0, .map none] HZ info46 rfl (by simp [Value.oneCell']) ?_; intro w3 hst; have HST := hid hst; clear hst; refine Hid.out ?_))
      refine hid ?_
      go_wp2
      exact bodyPost_ret (results_cell_row (fn := Tryz.f12) Tryz.results12 _ _ w.heap.size 46 #[.int .u8 k, .map (some (w.heap.size + 1))] (0, 0) _ (by rfl) HST.out.row Tryz.underlying46 rfl info46) rfl ⟨_, _, rfl, hlen, by omega, by rw [HTL.out]; exact HST.out.fm (by omega) HM.out, HST.out.bel _ _ HBE.out (by omega)⟩
end Go.Proofs.YtjgjoohdocjpkaaGreatDoor.Msg
