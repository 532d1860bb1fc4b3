/-
  Arrays of bytes compared.
-/
import Derived.Test.YtioohpdjmamhgaaDoorPackA
namespace Go.Proofs.YtioohpdjmamhgaaDoor
open Go.RowKit Go.Deep Crc
set_option linter.unusedVariables false

theorem part_byte (xs : List Nat) (i : Nat) (h : i < xs.length) (w : World) : (part 5 (bv xs).toArray i).run Tryd.prog w = .ok (.int .u8 ((xs[i] : Nat) : Int)) w := by
  have a5 := Tryd.isAgg5
  have hv : (bv xs).toArray[i]? = some (.int .u8 ((xs[i] : Nat) : Int)) := by simp [bv, h]
  simp only [part, Sem.run_bind, a5, Result.andThen_ok, hv]
  simp

theorem eq_byte (d : Nat) (a b : Int) (w : World) : (Op.equalIn (d + 1) 5 (.int .u8 a) (.int .u8 b)).run Tryd.prog w = .ok (a == b) w := by
  have u5 := Tryd.underlying5
  rw [Op.equalIn]
  simp [Sem.run_bind, run_underlying u5]
theorem eq_loop (xs ys : List Nat) (n d : Nat) (hx : xs.length = n) (hy : ys.length = n) (w : World) : ∀ m s, s + m = n →
    (Sem.run Tryd.prog (forIn (List.range' s m) (none, ()) fun i (__s : Option Bool × Unit) => do
      let __do_lift ← part 5 (bv xs).toArray (i * 1)
      let __do_lift_1 ← part 5 (bv ys).toArray (i * 1)
      let __do_lift ← Op.equalIn (d + 1) 5 __do_lift __do_lift_1
      if (!__do_lift) = true then pure (ForInStep.done (some false, ())) else pure (ForInStep.yield (none, ()))) w) =
    .ok (if xs.drop s = ys.drop s then (none, ()) else (some false, ())) w := by
  intro m
  induction m with
  | zero =>
    intro s h
    have e1 : xs.drop s = [] := List.drop_eq_nil_of_le (by omega)
    have e2 : ys.drop s = [] := List.drop_eq_nil_of_le (by omega)
    simp [e1, e2]
  | succ m ih =>
    intro s h
    have h1 : s < xs.length := by omega
    have h2 : s < ys.length := by omega
    have e1 : xs.drop s = xs[s] :: xs.drop (s + 1) := List.drop_eq_getElem_cons h1
    have e2 : ys.drop s = ys[s] :: ys.drop (s + 1) := List.drop_eq_getElem_cons h2
    have hd : (xs.drop s = ys.drop s) ↔ (xs[s] = ys[s] ∧ xs.drop (s + 1) = ys.drop (s + 1)) := by rw [e1, e2, List.cons.injEq]
    clear e1 e2
    rw [List.range'_succ, List.forIn_cons]
    simp only [Sem.run_bind, Nat.mul_one, part_byte xs s h1, part_byte ys s h2, Result.andThen_ok, eq_byte, Sem.run_ite]
    by_cases hc : xs[s] = ys[s]
    · have := ih (s + 1) (by omega)
      simp only [Nat.mul_one] at this
      simp [hd, hc]
      simpa using this
    · have hb : (((xs[s] : Nat) : Int) == ((ys[s] : Nat) : Int)) = false := by simp; omega
      simp [hd, hc]
      intro e
      exact absurd (by omega) hc
theorem eq_bytes (t : TypeId) (n : Nat) (ht : Tryd.prog.underlying t = some (.array n 5)) (xs ys : List Nat) (hx : xs.length = n) (hy : ys.length = n) (w : World) :
    (Op.equalIn 10000 t (.agg (bv xs).toArray) (.agg (bv ys).toArray)).run Tryd.prog w = .ok (decide (xs = ys)) w := by
  have z5 := Tryd.sizeOf5
  have u5 := Tryd.underlying5
  rw [show (10000 : Nat) = 9999 + 1 from rfl, Op.equalIn]
  simp only [Sem.run_bind, run_underlying ht, Result.andThen_ok, z5]
  simp only [Std.Legacy.Range.forIn_eq_forIn_range', Std.Legacy.Range.size, Nat.sub_zero, Nat.add_sub_cancel, Nat.div_one]
  have := eq_loop xs ys n 9998 hx hy w n 0 (by omega)
  rw [this]
  simp only [Result.andThen_ok, List.drop_zero]
  by_cases h : xs = ys <;> simp [h]
end Go.Proofs.YtioohpdjmamhgaaDoor
