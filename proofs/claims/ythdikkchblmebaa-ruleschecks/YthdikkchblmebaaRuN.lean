/-
  The order that a command lets come.
-/
import Derived.Test.YthdikkchblmebaaRuL
namespace Go.Proofs.Ythdikkchblmebaa
open Go.RowKit Go.Deep Go.Shelf
set_option linter.unusedVariables false
set_option linter.unusedSimpArgs false
set_option maxHeartbeats 4000000
set_option maxRecDepth 100000
/-- what a command is refused for by itself. -/
def chk (c : Cm) : Int := if c.kd = 1 then chO c else if c.kd = 3 then chO { c with sd := 1, ty := 1 } else if c.kd = 2 then 0 else 90
theorem check_any (c : Cm) (w : World) (hc : CmOk c) : Calls Try.prog 7 #[.agg (cmr c)] w fun e w' => e = .returned (.int .i64 (chk c)) ∧ Below w.heap.size w w' := by
  have C1 := hid (fun U => checkOrder_any c U hc)
  have C2 := hid (fun U => checkOrder_any { c with sd := 1, ty := 1 } U ⟨hc.id0, hc.id1, hc.mb0, hc.mb1, hc.qt0, hc.qt1, hc.pk0, hc.pk1⟩)
  unfold cmr at C1 C2
  simp only at C2
  clear hc
  by_cases k1 : c.kd = 1
  · have hr : chk c = chO c := by simp [chk, k1]
    rw [hr]
    have k1' : (c.kd == 1) = true := by simpa using k1
    clear k1 hr
    unfold cmr
    go_enter Try.func7, Try.ntmps7
    go_wp2_with (go_at_call 17; with_reducible refine (C1.out _).mono ?_; rintro e w1 ⟨rfl, hb1⟩)
    go_ret
    exact ⟨rfl, btr (ball _ _) hb1⟩
  · have k1' : (c.kd == 1) = false := by simpa using k1
    by_cases k3 : c.kd = 3
    · have hr : chk c = chO { c with sd := 1, ty := 1 } := by simp [chk, k3]
      rw [hr]
      have k3' : (c.kd == 3) = true := by simpa using k3
      clear k1 k3 hr
      unfold cmr
      go_enter Try.func7, Try.ntmps7
      go_wp2_with (go_at_call 17; with_reducible refine (C2.out _).mono ?_; rintro e w1 ⟨rfl, hb1⟩)
      go_ret
      exact ⟨rfl, btr (ball _ _) hb1⟩
    · have k3' : (c.kd == 3) = false := by simpa using k3
      by_cases k2 : c.kd = 2
      · have hr : chk c = 0 := by simp [chk, k2]
        rw [hr]
        have k2' : (c.kd == 2) = true := by simpa using k2
        clear k1 k3 k2 hr
        unfold cmr
        go_enter Try.func7, Try.ntmps7
        go_wp2
        go_ret
        exact ⟨rfl, ball _ _⟩
      · have hr : chk c = 90 := by simp [chk, k1, k2, k3]
        rw [hr]
        have k2' : (c.kd == 2) = false := by simpa using k2
        clear k1 k3 k2 hr
        unfold cmr
        go_enter Try.func7, Try.ntmps7
        go_wp2
        go_ret
        exact ⟨rfl, ball _ _⟩
/-- the command, a Replace of the kind of the order it replaces. -/
def cmN (b : Bs) (c : Cm) : Cm := if c.kd = 3 then { c with mb := (fo b c.tg).1.mb, sd := (fo b c.tg).2.1, ty := (fo b c.tg).1.ty } else c
def ord (c : Cm) : Or := ⟨c.id, c.mb, c.ty, c.pr, 0, 0, c.pk⟩
theorem crow_all (o : Or) (s q : Int) : (crow o s q).all (·.oneCell') = true := by simp [crow, Value.oneCell']
theorem crow_size (o y : Or) (s q t r : Int) : (crow o s q).size = (crow y t r).size := rfl
end Go.Proofs.Ythdikkchblmebaa
