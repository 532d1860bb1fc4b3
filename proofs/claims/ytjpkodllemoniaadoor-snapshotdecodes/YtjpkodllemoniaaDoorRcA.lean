/-
  ordersCanBe: what it asks of each order, whatever that is.
-/
import Derived.Test.YtjpkodllemoniaaDoorStB
import Derived.RangeFuncRecord
namespace Go.Proofs.YtjpkodllemoniaaDoor.Sr
open Go.RowKit Go.Deep
set_option linter.unusedVariables false
set_option linter.unusedSimpArgs false
set_option maxHeartbeats 8000000
set_option maxRecDepth 100000
/-- its words fit. -/
structure RtW (x : Rt) : Prop where
  id0 : 0 ≤ x.id
  id1 : x.id < 18446744073709551616
  vi0 : 0 ≤ x.vi
  vi1 : x.vi < 18446744073709551616
  hi0 : 0 ≤ x.hi
  hi1 : x.hi < 18446744073709551616
  pk0 : 0 ≤ x.pk
  pk1 : x.pk < 18446744073709551616
/-- what it shows and hides can be. -/
def AmOk (x : Rt) : Prop := 1 ≤ x.vi ∧ x.vi ≤ 4294967295 ∧ x.hi ≤ 4294967295 - x.vi ∧ x.pk ≤ 4294967295 ∧ (x.pk = 0 → x.hi = 0) ∧ (x.pk ≠ 0 → x.vi ≤ x.pk ∧ x.vi + x.hi ≤ 256 * x.pk)
instance (x : Rt) : Decidable (AmOk x) := by unfold AmOk; infer_instance
/-- an order can stand in a book whose highest ID is h. -/
def RtOk (h : Int) (x : Rt) : Prop := 1 ≤ x.id ∧ x.id ≤ h ∧ (x.ty = 1 ∨ x.ty = 5) ∧ (0 ≤ x.pr ∧ x.pr < 262144) ∧ AmOk x
instance (h : Int) (x : Rt) : Decidable (RtOk h x) := by unfold RtOk; infer_instance
def rtr (x : Rt) : Array Value := #[.int .u64 x.id, .int .u32 x.mb, .int .i64 x.ty, .int .i64 x.pr, .int .u64 x.vi, .int .u64 x.hi, .int .u64 x.pk]
theorem rests_any (k : Int) (b : Bool) (hb : b = true ↔ (k = 1 ∨ k = 5)) (w : World) : Calls Tryd.prog 48 #[.int .i64 k] w fun e w' => e = .returned (.bool b) ∧ w' = w := by
  by_cases h1 : k = 1
  · subst h1
    obtain rfl : b = true := by simpa using hb
    go_enter Tryd.func48, Tryd.ntmps48
    go_wp2
    go_ret
    exact ⟨rfl, rfl⟩
  · have d1 : (k == 1) = false := by simpa using h1
    have hb5 : b = (k == 5) := by
      rw [Bool.eq_iff_iff, hb]
      simp [h1]
    subst hb5
    clear hb h1
    go_enter Tryd.func48, Tryd.ntmps48
    go_wp2
    go_ret
    exact ⟨rfl, rfl⟩
theorem isPrice_any (p : Int) (b : Bool) (hb : b = true ↔ (0 ≤ p ∧ p < 262144)) (w : World) : Calls Tryd.prog 49 #[.int .i64 p] w fun e w' => e = .returned (.bool b) ∧ w' = w := by
  by_cases h0 : 0 ≤ p
  · have d0 : decide (0 ≤ p) = true := by simpa using h0
    have e : b = decide (p < 262144) := by
      rw [Bool.eq_iff_iff, hb]
      simp [h0]
    subst e
    clear hb
    go_enter Tryd.func49, Tryd.ntmps49
    go_wp2
    go_ret
    exact ⟨rfl, rfl⟩
  · have d0 : decide (0 ≤ p) = false := decide_eq_false h0
    obtain rfl : b = false := by
      rw [Bool.eq_false_iff]
      intro c
      exact h0 (hb.1 c).1
    clear hb h0
    go_enter Tryd.func49, Tryd.ntmps49
    go_wp2
    go_ret
    exact ⟨rfl, rfl⟩
theorem amounts_any (x : Rt) (hw : RtW x) (b : Bool) (hb : b = true ↔ AmOk x) (w : World) : Calls Tryd.prog 50 #[.agg (rtr x)] w fun e w' => e = .returned (.bool b) ∧ Below w.heap.size w w' := by
  obtain ⟨id, mb, ty, pr, vi, hi, pk⟩ := x
  obtain ⟨-, -, v0, v1, i0, i1, p0, p1⟩ := hw
  unfold rtr
  unfold AmOk at hb
  simp only at *
  have no : ¬ (1 ≤ vi ∧ vi ≤ 4294967295 ∧ hi ≤ 4294967295 - vi ∧ pk ≤ 4294967295 ∧ (pk = 0 → hi = 0) ∧ (pk ≠ 0 → vi ≤ pk ∧ vi + hi ≤ 256 * pk)) → b = false := fun c => by
    rw [Bool.eq_false_iff]
    exact fun e => c (hb.1 e)
  by_cases h1 : vi < 1
  · obtain rfl := no (by omega)
    clear hb no
    go_enter Tryd.func50, Tryd.ntmps50
    go_wp2
    go_ret
    exact ⟨rfl, ball _ _⟩
  by_cases h2 : 4294967295 < vi
  · obtain rfl := no (by omega)
    clear hb no
    go_enter Tryd.func50, Tryd.ntmps50
    go_wp2
    go_ret
    exact ⟨rfl, ball _ _⟩
  have a3 : IntKind.u64.wrap (4294967295 - vi) = 4294967295 - vi := by rw [IntKind.wrap_u64]; omega
  by_cases h3 : 4294967295 - vi < hi
  · obtain rfl := no (by omega)
    clear hb no
    go_enter Tryd.func50, Tryd.ntmps50
    go_wp2
    go_ret
    exact ⟨rfl, ball _ _⟩
  by_cases h4 : 4294967295 < pk
  · obtain rfl := no (by omega)
    clear hb no
    go_enter Tryd.func50, Tryd.ntmps50
    go_wp2
    go_ret
    exact ⟨rfl, ball _ _⟩
  have a6 : IntKind.u64.wrap (vi + hi) = vi + hi := by rw [IntKind.wrap_u64]; omega
  have a7 : IntKind.u64.wrap (256 * pk) = 256 * pk := by rw [IntKind.wrap_u64]; omega
  by_cases h5 : pk = 0
  · have e : b = (hi == 0) := by
      rw [Bool.eq_iff_iff, hb]
      simp only [beq_iff_eq]
      omega
    subst h5 e
    clear hb no p0 p1 a7 h4
    go_enter Tryd.func50, Tryd.ntmps50
    go_wp2
    go_ret
    exact ⟨rfl, ball _ _⟩
  · have d5 : (pk == 0) = false := by simpa using h5
    by_cases h6 : vi ≤ pk
    · have e : b = decide (vi + hi ≤ 256 * pk) := by
        rw [Bool.eq_iff_iff, hb]
        simp only [decide_eq_true_eq]
        omega
      subst e
      clear hb no p0 p1 i0 i1 v0 v1 h5
      go_enter Tryd.func50, Tryd.ntmps50
      go_wp2
      go_ret
      exact ⟨rfl, ball _ _⟩
    · obtain rfl := no (by omega)
      have d6 : decide (vi ≤ pk) = false := decide_eq_false h6
      clear hb no p0 p1 i0 i1 v0 v1 h5
      go_enter Tryd.func50, Tryd.ntmps50
      go_wp2
      go_ret
      exact ⟨rfl, ball _ _⟩
end Go.Proofs.YtjpkodllemoniaaDoor.Sr
