/-
  A command is refused.
-/
import Derived.Test.YtojmcfkbekodpaaRuN
namespace Go.Proofs.Ytojmcfkbekodpaa
open Go.RowKit Go.Deep Go.Shelf
set_option linter.unusedVariables false
set_option linter.unusedSimpArgs false
set_option maxHeartbeats 4000000
set_option maxRecDepth 100000
def evR (c : Cm) (y : Int) : Ev := ⟨0, 2, if c.kd = 2 then 0 else c.id, 0, if c.kd = 1 then 0 else c.tg, 0, 0, 0, 0, 0, 0, 0, y⟩
theorem reject_any (T B : Nat) (b : Bs) (ve : Value) (es : List Ev) (c : Cm) (y : Int) (w : World) (h : Tn w T B b ve es) (hn : es.length ≤ 17179869184) :
    Calls Try.prog 26 #[.pointer (some ⟨T, 0, none⟩), .agg (cmr c), .int .i64 y] w fun e w' => e = .returned (.tuple #[]) ∧ Told w T B b.told ve (es ++ [(evR c y).num (nx b.seq)]) (tfp T B ve) w' := by
  have HC := hid (fun (U : World) (hU : Below w.heap.size w U) => (tell_any T B b ve es (evR c y) U (h.on hU) hn).mono (R' := fun r w' => r = .returned (.tuple #[]) ∧ Told w T B b.told ve (es ++ [(evR c y).num (nx b.seq)]) (tfp T B ve) w') (fun e w' hh => by
    obtain ⟨rfl, ve', h1, h2, h3⟩ := hh
    exact ⟨rfl, ve', h1, fun j hj => (h2 j hj).imp (fun h => h) (fun h => Nat.le_trans hU.size h), (Kp.of _ hU).trans h3 (fun _ _ h => h)⟩))
  unfold cmr
  clear h
  by_cases k1 : c.kd = 1
  · have k1' : (c.kd == 1) = true := by simpa using k1
    have e1 : evR c y = ⟨0, 2, c.id, 0, 0, 0, 0, 0, 0, 0, 0, 0, y⟩ := by simp [evR, k1]
    rw [e1] at HC
    rw [e1]
    simp only [ecs] at HC
    clear k1 e1
    go_enter Try.func26, Try.ntmps26
    go_wp2_with (go_at_call 50; with_reducible refine (HC.out _ ?_).mono ?_; (repeat (first | exact Below.refl _ _ | refine Below.setCell ?_ (by simp; try omega) _ | refine Below.alloc ?_ (by simp; try omega) _)); rintro e w1 ⟨rfl, h1⟩)
    go_end0
    exact ⟨rfl, h1⟩
  · have k1' : (c.kd == 1) = false := by simpa using k1
    by_cases k2 : c.kd = 2
    · have k2' : (c.kd == 2) = true := by simpa using k2
      have e1 : evR c y = ⟨0, 2, 0, 0, c.tg, 0, 0, 0, 0, 0, 0, 0, y⟩ := by simp [evR, k2]
      rw [e1] at HC
      rw [e1]
      simp only [ecs] at HC
      clear k1 k2 e1
      go_enter Try.func26, Try.ntmps26
      go_wp2_with (go_at_call 50; with_reducible refine (HC.out _ ?_).mono ?_; (repeat (first | exact Below.refl _ _ | refine Below.setCell ?_ (by simp; try omega) _ | refine Below.alloc ?_ (by simp; try omega) _)); rintro e w1 ⟨rfl, h1⟩)
      go_end0
      exact ⟨rfl, h1⟩
    · have k2' : (c.kd == 2) = false := by simpa using k2
      have e1 : evR c y = ⟨0, 2, c.id, 0, c.tg, 0, 0, 0, 0, 0, 0, 0, y⟩ := by simp [evR, k1, k2]
      rw [e1] at HC
      rw [e1]
      simp only [ecs] at HC
      clear k1 k2 e1
      go_enter Try.func26, Try.ntmps26
      go_wp2_with (go_at_call 50; with_reducible refine (HC.out _ ?_).mono ?_; (repeat (first | exact Below.refl _ _ | refine Below.setCell ?_ (by simp; try omega) _ | refine Below.alloc ?_ (by simp; try omega) _)); rintro e w1 ⟨rfl, h1⟩)
      go_end0
      exact ⟨rfl, h1⟩
end Go.Proofs.Ytojmcfkbekodpaa
