/-
  The document's Valid: order, better, sorted. Written by mkRcF.py.
-/
import Derived.Test.YtjpkodllemoniaaDoorRcA
namespace Go.Proofs.YtjpkodllemoniaaDoor.Sr
open Go.RowKit Go.Deep
set_option linter.unusedVariables false
set_option linter.unusedSimpArgs false
set_option maxHeartbeats 8000000
set_option maxRecDepth 100000
attribute [local go_sem ↓] Go.wp_at_zero Go.wp_at_succ
theorem dorder_any (x : Rt) (h : Int) (hw : RtW x) (b : Bool) (hb : b = true ↔ RtOk h x) (w : World) : Calls Tryd.prog 37 #[.agg (rtr x), .int .u64 h] w fun e w' => e = .returned (.bool b) ∧ Below w.heap.size w w' := by
  obtain ⟨id, mb, ty, pr, vi, hi, pk⟩ := x
  obtain ⟨-, -, v0, v1, i0, i1, p0, p1⟩ := hw
  unfold rtr
  unfold RtOk AmOk at hb
  simp only at *
  have no : ¬ (1 ≤ id ∧ id ≤ h ∧ (ty = 1 ∨ ty = 5) ∧ (0 ≤ pr ∧ pr < 262144) ∧ 1 ≤ vi ∧ vi ≤ 4294967295 ∧ hi ≤ 4294967295 - vi ∧ pk ≤ 4294967295 ∧ (pk = 0 → hi = 0) ∧ (pk ≠ 0 → vi ≤ pk ∧ vi + hi ≤ 256 * pk)) → b = false := fun c => by
    rw [Bool.eq_false_iff]
    exact fun e => c (hb.1 e)
  by_cases h1 : id < 1
  · obtain rfl := no (by omega)
    clear hb no
    go_enter Tryd.func37, Tryd.ntmps37
    go_wp2
    go_ret
    exact ⟨rfl, ball _ _⟩
  by_cases h2 : h < id
  · obtain rfl := no (by omega)
    clear hb no
    go_enter Tryd.func37, Tryd.ntmps37
    go_wp2
    go_ret
    exact ⟨rfl, ball _ _⟩
  by_cases t1 : ty = 1
  · subst t1
    by_cases h3 : pr < 0
    · obtain rfl := no (by omega)
      clear hb no
      go_enter Tryd.func37, Tryd.ntmps37
      go_wp2
      go_ret
      exact ⟨rfl, ball _ _⟩
    by_cases h4 : 262144 ≤ pr
    · obtain rfl := no (by omega)
      clear hb no
      go_enter Tryd.func37, Tryd.ntmps37
      go_wp2
      go_ret
      exact ⟨rfl, ball _ _⟩
    by_cases h5 : vi < 1
    · obtain rfl := no (by omega)
      clear hb no
      go_enter Tryd.func37, Tryd.ntmps37
      go_wp2
      go_ret
      exact ⟨rfl, ball _ _⟩
    by_cases h6 : 4294967295 < vi
    · obtain rfl := no (by omega)
      clear hb no
      go_enter Tryd.func37, Tryd.ntmps37
      go_wp2
      go_ret
      exact ⟨rfl, ball _ _⟩
    by_cases h7 : 4294967295 < pk
    · obtain rfl := no (by omega)
      clear hb no
      go_enter Tryd.func37, Tryd.ntmps37
      go_wp2
      go_ret
      exact ⟨rfl, ball _ _⟩
    by_cases h8 : 4294967295 < hi
    · obtain rfl := no (by omega)
      clear hb no
      go_enter Tryd.func37, Tryd.ntmps37
      go_wp2
      go_ret
      exact ⟨rfl, ball _ _⟩
    have a6 : IntKind.u64.wrap (vi + hi) = vi + hi := by rw [IntKind.wrap_u64]; omega
    by_cases h9 : 4294967295 < vi + hi
    · obtain rfl := no (by omega)
      clear hb no
      go_enter Tryd.func37, Tryd.ntmps37
      go_wp2
      go_ret
      exact ⟨rfl, ball _ _⟩
    have a7 : IntKind.u64.wrap (256 * pk) = 256 * pk := by rw [IntKind.wrap_u64]; omega
    by_cases h10 : pk = 0
    · have e : b = (hi == 0) := by
        rw [Bool.eq_iff_iff, hb, beq_iff_eq]
        exact ⟨fun hh => hh.2.2.2.2.2.2.2.2.1 h10, fun hh => ⟨by omega, by omega, by first | exact .inl rfl | exact .inr rfl, ⟨by omega, by omega⟩, by omega, by omega, by omega, by omega, fun _ => hh, fun c => absurd h10 c⟩⟩
      subst h10 e
      clear hb no p0 p1 a7 h7
      go_enter Tryd.func37, Tryd.ntmps37
      go_wp2
      go_ret
      exact ⟨rfl, ball _ _⟩
    · have d5 : (pk == 0) = false := by simpa using h10
      by_cases h11 : vi ≤ pk
      · have e : b = decide (vi + hi ≤ 256 * pk) := by
          rw [Bool.eq_iff_iff, hb, decide_eq_true_eq]
          exact ⟨fun hh => (hh.2.2.2.2.2.2.2.2.2 h10).2, fun hh => ⟨by omega, by omega, by first | exact .inl rfl | exact .inr rfl, ⟨by omega, by omega⟩, by omega, by omega, by omega, by omega, fun c => absurd c h10, fun _ => ⟨h11, hh⟩⟩⟩
        subst e
        clear hb no p0 p1 i0 i1 v0 v1 h10
        go_enter Tryd.func37, Tryd.ntmps37
        go_wp2
        go_ret
        exact ⟨rfl, ball _ _⟩
      · obtain rfl := no (by omega)
        have d6 : decide (vi ≤ pk) = false := decide_eq_false h11
        clear hb no p0 p1 i0 i1 v0 v1 h10
        go_enter Tryd.func37, Tryd.ntmps37
        go_wp2
        go_ret
        exact ⟨rfl, ball _ _⟩
  · have t1' : (ty != 1) = true := by simpa using t1
    by_cases t5 : ty = 5
    · subst t5
      by_cases h3 : pr < 0
      · obtain rfl := no (by omega)
        clear hb no
        go_enter Tryd.func37, Tryd.ntmps37
        go_wp2
        go_ret
        exact ⟨rfl, ball _ _⟩
      by_cases h4 : 262144 ≤ pr
      · obtain rfl := no (by omega)
        clear hb no
        go_enter Tryd.func37, Tryd.ntmps37
        go_wp2
        go_ret
        exact ⟨rfl, ball _ _⟩
      by_cases h5 : vi < 1
      · obtain rfl := no (by omega)
        clear hb no
        go_enter Tryd.func37, Tryd.ntmps37
        go_wp2
        go_ret
        exact ⟨rfl, ball _ _⟩
      by_cases h6 : 4294967295 < vi
      · obtain rfl := no (by omega)
        clear hb no
        go_enter Tryd.func37, Tryd.ntmps37
        go_wp2
        go_ret
        exact ⟨rfl, ball _ _⟩
      by_cases h7 : 4294967295 < pk
      · obtain rfl := no (by omega)
        clear hb no
        go_enter Tryd.func37, Tryd.ntmps37
        go_wp2
        go_ret
        exact ⟨rfl, ball _ _⟩
      by_cases h8 : 4294967295 < hi
      · obtain rfl := no (by omega)
        clear hb no
        go_enter Tryd.func37, Tryd.ntmps37
        go_wp2
        go_ret
        exact ⟨rfl, ball _ _⟩
      have a6 : IntKind.u64.wrap (vi + hi) = vi + hi := by rw [IntKind.wrap_u64]; omega
      by_cases h9 : 4294967295 < vi + hi
      · obtain rfl := no (by omega)
        clear hb no
        go_enter Tryd.func37, Tryd.ntmps37
        go_wp2
        go_ret
        exact ⟨rfl, ball _ _⟩
      have a7 : IntKind.u64.wrap (256 * pk) = 256 * pk := by rw [IntKind.wrap_u64]; omega
      by_cases h10 : pk = 0
      · have e : b = (hi == 0) := by
          rw [Bool.eq_iff_iff, hb, beq_iff_eq]
          exact ⟨fun hh => hh.2.2.2.2.2.2.2.2.1 h10, fun hh => ⟨by omega, by omega, by first | exact .inl rfl | exact .inr rfl, ⟨by omega, by omega⟩, by omega, by omega, by omega, by omega, fun _ => hh, fun c => absurd h10 c⟩⟩
        subst h10 e
        clear hb no p0 p1 a7 h7
        go_enter Tryd.func37, Tryd.ntmps37
        go_wp2
        go_ret
        exact ⟨rfl, ball _ _⟩
      · have d5 : (pk == 0) = false := by simpa using h10
        by_cases h11 : vi ≤ pk
        · have e : b = decide (vi + hi ≤ 256 * pk) := by
            rw [Bool.eq_iff_iff, hb, decide_eq_true_eq]
            exact ⟨fun hh => (hh.2.2.2.2.2.2.2.2.2 h10).2, fun hh => ⟨by omega, by omega, by first | exact .inl rfl | exact .inr rfl, ⟨by omega, by omega⟩, by omega, by omega, by omega, by omega, fun c => absurd c h10, fun _ => ⟨h11, hh⟩⟩⟩
          subst e
          clear hb no p0 p1 i0 i1 v0 v1 h10
          go_enter Tryd.func37, Tryd.ntmps37
          go_wp2
          go_ret
          exact ⟨rfl, ball _ _⟩
        · obtain rfl := no (by omega)
          have d6 : decide (vi ≤ pk) = false := decide_eq_false h11
          clear hb no p0 p1 i0 i1 v0 v1 h10
          go_enter Tryd.func37, Tryd.ntmps37
          go_wp2
          go_ret
          exact ⟨rfl, ball _ _⟩
    · have t5' : (ty != 5) = true := by simpa using t5
      obtain rfl := no (by omega)
      clear hb no
      go_enter Tryd.func37, Tryd.ntmps37
      go_wp2
      go_ret
      exact ⟨rfl, ball _ _⟩
end Go.Proofs.YtjpkodllemoniaaDoor.Sr
