/-
  ordersCanBe: each order.
-/
import Derived.Test.YtjpkodllemoniaaDoorRcA
namespace Go.Proofs.YtjpkodllemoniaaDoor.Sr
open Go.RowKit Go.Deep
set_option linter.unusedVariables false
set_option linter.unusedSimpArgs false
set_option maxHeartbeats 8000000
set_option maxRecDepth 100000
/-- what ordersCanBe asks of each. -/
theorem ordok1_any (P : Nat) (h : Int) (x : Rt) (hx : RtW x) (b : Bool) (hb : b = true ↔ RtOk h x) (w : World) (hP : P < w.heap.size) (hc : w.cell? ⟨P, 0, none⟩ = some (.int .u64 h)) : Calls Tryd.prog 47 #[.agg (rtr x), .pointer (some ⟨P, 0, none⟩)] w fun e w' => e = .returned (.bool (!b)) ∧ Below w.heap.size w w' := by
  have no : ¬ RtOk h x → b = false := fun c => by
    rw [Bool.eq_false_iff]
    exact fun e => c (hb.1 e)
  unfold RtOk at hb no
  obtain ⟨id, mb, ty, pr, vi, hi, pk⟩ := x
  simp only at hb no
  obtain ⟨am, ham⟩ : ∃ am, decide (AmOk ⟨id, mb, ty, pr, vi, hi, pk⟩) = am := ⟨_, rfl⟩
  have CA := hid (fun U => amounts_any ⟨id, mb, ty, pr, vi, hi, pk⟩ hx am (by rw [← ham]; exact decide_eq_true_iff) U)
  obtain ⟨rs, hrs⟩ : ∃ rs, decide (ty = 1 ∨ ty = 5) = rs := ⟨_, rfl⟩
  have CR := hid (fun U => rests_any ty rs (by rw [← hrs]; exact decide_eq_true_iff) U)
  obtain ⟨pp, hpp⟩ : ∃ pp, decide (0 ≤ pr ∧ pr < 262144) = pp := ⟨_, rfl⟩
  have CP := hid (fun U => isPrice_any pr pp (by rw [← hpp]; exact decide_eq_true_iff) U)
  have hall : b = (decide (1 ≤ id) && decide (id ≤ h) && rs && pp && am) := by
    rw [Bool.eq_iff_iff, hb, ← hrs, ← hpp, ← ham]
    simp only [Bool.and_eq_true, decide_eq_true_eq, and_assoc]
  clear hb no ham hrs hpp hx
  unfold rtr at *
  simp only at *
  obtain ⟨W, hW⟩ : ∃ W, w.alloc (.cells #[.int .u64 id, .int .u32 mb, .int .i64 ty, .int .i64 pr, .int .u64 vi, .int .u64 hi, .int .u64 pk] 46) = W := ⟨_, rfl⟩
  have hB := hid (show Below w.heap.size w W from by rw [← hW]; exact ball _ _)
  have hh : W.heap[w.heap.size]? = some (.cells #[.int .u64 id, .int .u32 mb, .int .i64 ty, .int .i64 pr, .int .u64 vi, .int .u64 hi, .int .u64 pk] 46 (0, 0)) := by rw [← hW]; exact World.alloc_heap_new _ _
  have hc2 : W.cell? ⟨P, 0, none⟩ = some (.int .u64 h) := (hB.out.cell (p := ⟨P, 0, none⟩) hP).trans hc
  have c0 : W.cell? ⟨w.heap.size, 0, none⟩ = some (.int .u64 id) := row_cell hh 0
  have c1 : W.cell? ⟨w.heap.size, 1, none⟩ = some (.int .u32 mb) := row_cell hh 1
  have c2 : W.cell? ⟨w.heap.size, 2, none⟩ = some (.int .i64 ty) := row_cell hh 2
  have c3 : W.cell? ⟨w.heap.size, 3, none⟩ = some (.int .i64 pr) := row_cell hh 3
  have c4 : W.cell? ⟨w.heap.size, 4, none⟩ = some (.int .u64 vi) := row_cell hh 4
  have c5 : W.cell? ⟨w.heap.size, 5, none⟩ = some (.int .u64 hi) := row_cell hh 5
  have c6 : W.cell? ⟨w.heap.size, 6, none⟩ = some (.int .u64 pk) := row_cell hh 6
  have HR := hid (show ∀ U, W = U → Below w.heap.size w U from fun U e => by rw [← e]; exact hB.out)
  clear hh hc
  by_cases h1 : id < 1
  · have e : b = false := by rw [hall, decide_eq_false (by omega : ¬ 1 ≤ id)]; simp
    subst e
    clear hall
    go_enter Tryd.func47, Tryd.ntmps47
    go_upto_region 1 with fail
    clear hW
    go_wp2
    go_ret
    exact ⟨rfl, hB.out⟩
  by_cases h2 : h < id
  · have e : b = false := by rw [hall, decide_eq_false (by omega : ¬ id ≤ h)]; simp
    subst e
    clear hall
    go_enter Tryd.func47, Tryd.ntmps47
    go_upto_region 1 with fail
    clear hW
    go_wp2
    go_ret
    exact ⟨rfl, hB.out⟩
  have hall2 : b = (rs && pp && am) := by rw [hall, decide_eq_true (by omega : 1 ≤ id), decide_eq_true (by omega : id ≤ h)]; simp
  clear hall
  cases rs with
  | false =>
    have e : b = false := by rw [hall2]; rfl
    subst e
    clear hall2
    go_enter Tryd.func47, Tryd.ntmps47
    go_upto_region 1 with fail
    clear hW
    go_wp2_with (first | (go_at_call 48; with_reducible refine (CR.out _).mono ?_; rintro e w1 ⟨rfl, rfl⟩))
    go_ret
    exact ⟨rfl, hB.out⟩
  | true =>
    cases pp with
    | false =>
      have e : b = false := by rw [hall2]; rfl
      subst e
      clear hall2
      go_enter Tryd.func47, Tryd.ntmps47
      go_upto_region 1 with fail
      clear hW
      go_wp2_with (first | (go_at_call 48; with_reducible refine (CR.out _).mono ?_; rintro e w1 ⟨rfl, rfl⟩) | (go_at_call 49; with_reducible refine (CP.out _).mono ?_; rintro e w1 ⟨rfl, rfl⟩))
      go_ret
      exact ⟨rfl, hB.out⟩
    | true =>
      have e : b = am := by rw [hall2]; rfl
      subst e
      clear hall2
      go_enter Tryd.func47, Tryd.ntmps47
      go_upto_region 1 with fail
      clear hW
      go_wp2_with (first | (go_at_call 48; with_reducible refine (CR.out _).mono ?_; rintro e w1 ⟨rfl, rfl⟩) | (go_at_call 49; with_reducible refine (CP.out _).mono ?_; rintro e w1 ⟨rfl, rfl⟩) | (go_at_call 50; with_reducible refine (CA.out _).mono ?_; rintro e w1 ⟨rfl, H1⟩; have HA := hid H1; clear H1))
      go_ret
      exact ⟨rfl, hB.out.trans (HA.out.mono hB.out.size)⟩
end Go.Proofs.YtjpkodllemoniaaDoor.Sr
