/-
  A frame is equal to itself.
-/
import Derived.Test.YtioohpdjmamhgaaDoorPackA
namespace Go.Proofs.YtioohpdjmamhgaaDoor
open Go.RowKit Go.Deep Crc
set_option linter.unusedVariables false
theorem eq_word (d : Nat) (a b : Int) (w : World) : (Op.equalIn (d + 1) 28 (.int .u64 a) (.int .u64 b)).run Tryd.prog w = .ok (a == b) w := by
  have u5 := Tryd.underlying28
  rw [Op.equalIn]
  simp [Sem.run_bind, run_underlying u5]
theorem part_byte0 (v : Value) (r : Array Value) (h : r[0]? = some v) (w : World) : (part 5 r 0).run Tryd.prog w = .ok v w := by
  have a5 := Tryd.isAgg5
  simp only [part, Sem.run_bind, a5, Result.andThen_ok, h]
  simp
theorem eq_byteF (d : Nat) (a b : Int) (w : World) : (Op.equalIn (d + 1) 5 (.int .u8 a) (.int .u8 b)).run Tryd.prog w = .ok (a == b) w := by
  have u5 := Tryd.underlying5
  rw [Op.equalIn]
  simp [Sem.run_bind, run_underlying u5]
theorem eqW (a0 a1 a2 a3 a4 a5 a6 : Int) (d : Nat) (w : World) : (Op.equalIn (d + 2) 29 (.agg #[.int .u64 a0, .int .u64 a1, .int .u64 a2, .int .u64 a3, .int .u64 a4, .int .u64 a5, .int .u64 a6]) (.agg #[.int .u64 a0, .int .u64 a1, .int .u64 a2, .int .u64 a3, .int .u64 a4, .int .u64 a5, .int .u64 a6])).run Tryd.prog w = .ok true w := by
  have u3 := Tryd.underlying28
  have a3' := Tryd.isAgg28
  have z3 := Tryd.sizeOf28
  rw [Op.equalIn]
  simp only [Sem.run_bind, run_underlying Tryd.underlying29, Result.andThen_ok]
  simp only [Std.Legacy.Range.forIn_eq_forIn_range', Std.Legacy.Range.size, Nat.sub_zero, Nat.add_sub_cancel, Nat.div_one, List.range'_succ, List.range'_zero, List.forIn_cons, List.forIn_nil]
  simp [part, z3, a3', Sem.run_bind, eq_word]
theorem stood31 : Tryd.prog.stoodInHeld 31 = false := by kernel_rfl
theorem fields31 : (Tryd.prog.fieldsOf 31).toList.map (fun f => (f.name, f.type, f.offset)) = [("Kind", 5, 0), ("Words", 29, 1)] := by kernel_rfl
theorem under31 : Tryd.prog.underlying 31 = some (.struct (Tryd.prog.fieldsOf 31)) := by kernel_rfl
theorem two_of {α β : Type} (φ : α → β) (l : List α) (x y : β) (h : l.map φ = [x, y]) : ∃ f g, l = [f, g] ∧ φ f = x ∧ φ g = y := by
  cases l with
  | nil => simp at h
  | cons f l =>
    cases l with
    | nil => simp at h
    | cons g l =>
      cases l with
      | nil => simp at h; exact ⟨f, g, rfl, h.1, h.2⟩
      | cons _ _ => simp at h
theorem eqF (k a0 a1 a2 a3 a4 a5 a6 : Int) (w : World) : (Op.equalIn 10000 31 (.agg #[.int .u8 k, .int .u64 a0, .int .u64 a1, .int .u64 a2, .int .u64 a3, .int .u64 a4, .int .u64 a5, .int .u64 a6]) (.agg #[.int .u8 k, .int .u64 a0, .int .u64 a1, .int .u64 a2, .int .u64 a3, .int .u64 a4, .int .u64 a5, .int .u64 a6])).run Tryd.prog w = .ok true w := by
  rw [show (10000 : Nat) = 9999 + 1 from rfl, run_equalIn_struct w 9999 31 _ _ under31 stood31]
  obtain ⟨f, g, h, hf, hg⟩ := two_of _ _ _ _ fields31
  rw [h]
  simp only [Prod.mk.injEq] at hf hg
  obtain ⟨f1, f2, f3⟩ := hf
  obtain ⟨g1, g2, g3⟩ := hg
  have a29 := Tryd.isAgg29
  have z29 := Tryd.sizeOf29
  have pw : (part 29 #[.int .u8 k, .int .u64 a0, .int .u64 a1, .int .u64 a2, .int .u64 a3, .int .u64 a4, .int .u64 a5, .int .u64 a6] 1).run Tryd.prog w = .ok (.agg #[.int .u64 a0, .int .u64 a1, .int .u64 a2, .int .u64 a3, .int .u64 a4, .int .u64 a5, .int .u64 a6]) w := by
    simp [part, Sem.run_bind, a29, z29]
  have e9 : (9999 : Nat) = 9998 + 1 := rfl
  have e8 : (9999 : Nat) = 9997 + 2 := rfl
  have q1 := eq_byteF 9998 k k w
  have q2 := eqW a0 a1 a2 a3 a4 a5 a6 9997 w
  rw [show 9998 + 1 = 9999 from rfl] at q1
  rw [show 9997 + 2 = 9999 from rfl] at q2
  simp [Op.eqFields, f1, f2, f3, g1, g2, g3, Sem.run_bind, part_byte0, pw, q1, q2]
end Go.Proofs.YtioohpdjmamhgaaDoor
