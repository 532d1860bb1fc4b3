/-
  Valid of any book.
-/
import Derived.Test.YtjpkodllemoniaaDoorRcD
import Derived.Test.YtjpkodllemoniaaDoorRcB
namespace Go.Proofs.YtjpkodllemoniaaDoor.Sr
open Go.RowKit Go.Deep
set_option linter.unusedVariables false
set_option linter.unusedSimpArgs false
set_option maxHeartbeats 8000000
set_option maxRecDepth 100000
/-- there can be such a book. -/
structure BoOk (x : Bo) : Prop where
  cfg : (1 ≤ x.cap ∧ x.cap ≤ 4096) ∧ 0 ≤ x.meet ∧ x.meet ≤ 3
  few : (x.b.length : Int) + (x.s.length : Int) ≤ x.cap
  sb : SrR 1 x.b
  ss : SrR 2 x.s
  apart : ¬ Crs x.b x.s
  okb : AllOk x.high x.b
  oks : AllOk x.high x.s
  one : (x.b.map Rt.id ++ x.s.map Rt.id).Nodup
theorem cfg_any (cap meet : Int) (b : Bool) (hb : b = true ↔ ((1 ≤ cap ∧ cap ≤ 4096) ∧ 0 ≤ meet ∧ meet ≤ 3)) (w : World) :
    Calls Tryd.prog 29 #[.agg #[.int .i64 cap, .int .i64 meet]] w fun e w' => e = .returned (.bool b) ∧ Below w.heap.size w w' := by
  have no : ¬ ((1 ≤ cap ∧ cap ≤ 4096) ∧ 0 ≤ meet ∧ meet ≤ 3) → b = false := fun c => by
    rw [Bool.eq_false_iff]
    exact fun e => c (hb.1 e)
  by_cases h0 : 1 ≤ cap
  · have d0 : decide (1 ≤ cap) = true := decide_eq_true h0
    by_cases h1 : cap ≤ 4096
    · have d1 : decide (cap ≤ 4096) = true := decide_eq_true h1
      by_cases h2 : 0 ≤ meet
      · have d2 : decide (0 ≤ meet) = true := decide_eq_true h2
        have e : b = decide (meet ≤ 3) := by
          rw [Bool.eq_iff_iff, hb]
          simp only [decide_eq_true_eq]
          omega
        subst e
        clear hb no
        go_enter Tryd.func29, Tryd.ntmps29
        go_wp2
        go_ret
        exact ⟨rfl, ball _ _⟩
      · obtain rfl := no (by omega)
        have d2 : decide (0 ≤ meet) = false := decide_eq_false h2
        clear hb no h0 h1 h2
        go_enter Tryd.func29, Tryd.ntmps29
        go_wp2
        go_ret
        exact ⟨rfl, ball _ _⟩
    · obtain rfl := no (by omega)
      have d1 : decide (cap ≤ 4096) = false := decide_eq_false h1
      clear hb no h0 h1
      go_enter Tryd.func29, Tryd.ntmps29
      go_wp2
      go_ret
      exact ⟨rfl, ball _ _⟩
  · obtain rfl := no (by omega)
    have d0 : decide (1 ≤ cap) = false := decide_eq_false h0
    clear hb no h0
    go_enter Tryd.func29, Tryd.ntmps29
    go_wp2
    go_ret
    exact ⟨rfl, ball _ _⟩
end Go.Proofs.YtjpkodllemoniaaDoor.Sr
