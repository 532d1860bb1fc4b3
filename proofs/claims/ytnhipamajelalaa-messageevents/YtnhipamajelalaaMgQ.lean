/-
  Structs compared.
-/
import Derived.Test.YtnhipamajelalaaMgD
namespace Go.Proofs.Ytnhipamajelalaa
open Go.RowKit Go.Maps Go.Deep Go.Lib
set_option linter.unusedVariables false
set_option linter.unusedSimpArgs false

theorem eqF_nil (d : Nat) (xs ys : Array Value) (w : World) : (Op.eqFields d xs ys []).run Try.prog w = .ok true w := by simp [Op.eqFields]
theorem eqF_any (d : Nat) (xs ys : Array Value) (f : Field) (fs : List Field) (u v : Value) (c : Bool) {r : Bool} {w : World} (hn : f.name ≠ "_") (hx : (part f.type xs f.offset).run Try.prog w = .ok u w) (hy : (part f.type ys f.offset).run Try.prog w = .ok v w)
    (hq : (Op.equalIn d f.type u v).run Try.prog w = .ok c w) (hr : (Op.eqFields d xs ys fs).run Try.prog w = .ok r w) : (Op.eqFields d xs ys (f :: fs)).run Try.prog w = .ok (c && r) w := by
  simp only [Op.eqFields, if_pos hn, Sem.run_bind, hx, hy, hq, Result.andThen_ok, Sem.run_ite]
  cases c
  · simp
  · simp [hr]
theorem eqF_cons (d : Nat) (xs ys : Array Value) (f : Field) (fs : List Field) (k k' : IntKind) (a b : Int) {r : Bool} {w : World} (hn : f.name ≠ "_") (hx : (part f.type xs f.offset).run Try.prog w = .ok (.int k a) w) (hy : (part f.type ys f.offset).run Try.prog w = .ok (.int k b) w)
    (hu : Try.prog.underlying f.type = some (.int k')) (hr : (Op.eqFields (d + 1) xs ys fs).run Try.prog w = .ok r w) : (Op.eqFields (d + 1) xs ys (f :: fs)).run Try.prog w = .ok ((a == b) && r) w :=
  eqF_any (d + 1) xs ys f fs _ _ (a == b) hn hx hy (run_equalIn_int w d f.type k k' a b hu) hr
theorem part_int (t : TypeId) (xs : Array Value) (o : Nat) (v : Value) (ha : ∀ w, (isAgg t).run Try.prog w = .ok false w) (h : xs[o]? = some v) (w : World) : (part t xs o).run Try.prog w = .ok v w := by
  simp [part, Sem.run_bind, ha, h]
theorem under25 : Try.prog.underlying 25 = some (.struct (Try.prog.fieldsOf 25)) := by kernel_rfl
theorem under27 : Try.prog.underlying 27 = some (.struct (Try.prog.fieldsOf 27)) := by kernel_rfl
theorem under39 : Try.prog.underlying 39 = some (.struct (Try.prog.fieldsOf 39)) := by kernel_rfl
theorem under30 : Try.prog.underlying 30 = some (.struct (Try.prog.fieldsOf 30)) := by kernel_rfl
theorem stood25 : Try.prog.stoodInHeld 25 = false := by kernel_rfl
theorem stood27 : Try.prog.stoodInHeld 27 = false := by kernel_rfl
theorem stood39 : Try.prog.stoodInHeld 39 = false := by kernel_rfl
theorem stood30 : Try.prog.stoodInHeld 30 = false := by kernel_rfl
set_option maxRecDepth 100000 in
theorem eqC (x0 x1 x2 x3 x4 x5 x6 x7 x8 y0 y1 y2 y3 y4 y5 y6 y7 y8 : Int) (d : Nat) (w : World) : (Op.equalIn (d + 2) 25 (.agg #[.int .i64 x0, .int .u64 x1, .int .u64 x2, .int .u32 x3, .int .i64 x4, .int .i64 x5, .int .i64 x6, .int .u64 x7, .int .u64 x8]) (.agg #[.int .i64 y0, .int .u64 y1, .int .u64 y2, .int .u32 y3, .int .i64 y4, .int .i64 y5, .int .i64 y6, .int .u64 y7, .int .u64 y8])).run Try.prog w = .ok ((x0 == y0) && ((x1 == y1) && ((x2 == y2) && ((x3 == y3) && ((x4 == y4) && ((x5 == y5) && ((x6 == y6) && ((x7 == y7) && ((x8 == y8) && true))))))))) w := by
  rw [run_equalIn_struct w (d + 1) 25 _ _ under25 stood25]
  simp only [Program.fieldsOf, Try.underlying25]
  exact eqF_cons _ _ _ _ _ .i64 .i64 _ _ (by decide) (part_int 3 _ _ _ Try.isAgg3 rfl _) (part_int 3 _ _ _ Try.isAgg3 rfl _) Try.underlying3 (eqF_cons _ _ _ _ _ .u64 .u64 _ _ (by decide) (part_int 22 _ _ _ Try.isAgg22 rfl _) (part_int 22 _ _ _ Try.isAgg22 rfl _) Try.underlying22 (eqF_cons _ _ _ _ _ .u64 .u64 _ _ (by decide) (part_int 22 _ _ _ Try.isAgg22 rfl _) (part_int 22 _ _ _ Try.isAgg22 rfl _) Try.underlying22 (eqF_cons _ _ _ _ _ .u32 .u32 _ _ (by decide) (part_int 23 _ _ _ Try.isAgg23 rfl _) (part_int 23 _ _ _ Try.isAgg23 rfl _) Try.underlying23 (eqF_cons _ _ _ _ _ .i64 .i64 _ _ (by decide) (part_int 3 _ _ _ Try.isAgg3 rfl _) (part_int 3 _ _ _ Try.isAgg3 rfl _) Try.underlying3 (eqF_cons _ _ _ _ _ .i64 .i64 _ _ (by decide) (part_int 3 _ _ _ Try.isAgg3 rfl _) (part_int 3 _ _ _ Try.isAgg3 rfl _) Try.underlying3 (eqF_cons _ _ _ _ _ .i64 .i64 _ _ (by decide) (part_int 3 _ _ _ Try.isAgg3 rfl _) (part_int 3 _ _ _ Try.isAgg3 rfl _) Try.underlying3 (eqF_cons _ _ _ _ _ .u64 .u64 _ _ (by decide) (part_int 22 _ _ _ Try.isAgg22 rfl _) (part_int 22 _ _ _ Try.isAgg22 rfl _) Try.underlying22 (eqF_cons _ _ _ _ _ .u64 .u64 _ _ (by decide) (part_int 22 _ _ _ Try.isAgg22 rfl _) (part_int 22 _ _ _ Try.isAgg22 rfl _) Try.underlying22 (eqF_nil _ _ _ _)))))))))
theorem part_cmd (x0 x1 x2 x3 x4 x5 x6 x7 x8 x9 x10 : Int) (w : World) : (part 25 (iV x0 x1 x2 x3 x4 x5 x6 x7 x8 x9 x10) 1).run Try.prog w = .ok (.agg #[.int .i64 x1, .int .u64 x2, .int .u64 x3, .int .u32 x4, .int .i64 x5, .int .i64 x6, .int .i64 x7, .int .u64 x8, .int .u64 x9]) w := by
  have a := Try.isAgg25
  have z := Try.sizeOf25
  simp [part, Sem.run_bind, a, z, iV]
set_option maxRecDepth 100000 in
theorem eqI (x0 x1 x2 x3 x4 x5 x6 x7 x8 x9 x10 y0 y1 y2 y3 y4 y5 y6 y7 y8 y9 y10 : Int) (w : World) : (Op.equalIn 10000 27 (.agg (iV x0 x1 x2 x3 x4 x5 x6 x7 x8 x9 x10)) (.agg (iV y0 y1 y2 y3 y4 y5 y6 y7 y8 y9 y10))).run Try.prog w = .ok ((x0 == y0) && (((x1 == y1) && ((x2 == y2) && ((x3 == y3) && ((x4 == y4) && ((x5 == y5) && ((x6 == y6) && ((x7 == y7) && ((x8 == y8) && ((x9 == y9) && true))))))))) && ((x10 == y10) && true))) w := by
  rw [show (10000 : Nat) = 9999 + 1 from rfl, run_equalIn_struct w 9999 27 _ _ under27 stood27]
  simp only [Program.fieldsOf, Try.underlying27]
  exact eqF_cons 9998 _ _ _ _ .i64 .i64 _ _ (by decide) (part_int 3 _ _ _ Try.isAgg3 rfl _) (part_int 3 _ _ _ Try.isAgg3 rfl _) Try.underlying3 (eqF_any 9999 _ _ _ _ _ _ _ (by decide) (part_cmd _ _ _ _ _ _ _ _ _ _ _ _) (part_cmd _ _ _ _ _ _ _ _ _ _ _ _) (eqC _ _ _ _ _ _ _ _ _ _ _ _ _ _ _ _ _ _ 9997 w) (eqF_cons 9998 _ _ _ _ .i64 .i64 _ _ (by decide) (part_int 3 _ _ _ Try.isAgg3 rfl _) (part_int 3 _ _ _ Try.isAgg3 rfl _) Try.underlying3 (eqF_nil _ _ _ _)))
set_option maxRecDepth 100000 in
theorem eqE (x0 x1 x2 x3 x4 x5 x6 x7 x8 x9 x10 x11 x12 y0 y1 y2 y3 y4 y5 y6 y7 y8 y9 y10 y11 y12 : Int) (w : World) : (Op.equalIn 10000 39 (.agg (eV x0 x1 x2 x3 x4 x5 x6 x7 x8 x9 x10 x11 x12)) (.agg (eV y0 y1 y2 y3 y4 y5 y6 y7 y8 y9 y10 y11 y12))).run Try.prog w = .ok ((x0 == y0) && ((x1 == y1) && ((x2 == y2) && ((x3 == y3) && ((x4 == y4) && ((x5 == y5) && ((x6 == y6) && ((x7 == y7) && ((x8 == y8) && ((x9 == y9) && ((x10 == y10) && ((x11 == y11) && ((x12 == y12) && true))))))))))))) w := by
  rw [show (10000 : Nat) = 9999 + 1 from rfl, run_equalIn_struct w 9999 39 _ _ under39 stood39]
  simp only [Program.fieldsOf, Try.underlying39]
  exact eqF_cons _ _ _ _ _ .u64 .u64 _ _ (by decide) (part_int 22 _ _ _ Try.isAgg22 rfl _) (part_int 22 _ _ _ Try.isAgg22 rfl _) Try.underlying22 (eqF_cons _ _ _ _ _ .i64 .i64 _ _ (by decide) (part_int 3 _ _ _ Try.isAgg3 rfl _) (part_int 3 _ _ _ Try.isAgg3 rfl _) Try.underlying3 (eqF_cons _ _ _ _ _ .u64 .u64 _ _ (by decide) (part_int 22 _ _ _ Try.isAgg22 rfl _) (part_int 22 _ _ _ Try.isAgg22 rfl _) Try.underlying22 (eqF_cons _ _ _ _ _ .u64 .u64 _ _ (by decide) (part_int 22 _ _ _ Try.isAgg22 rfl _) (part_int 22 _ _ _ Try.isAgg22 rfl _) Try.underlying22 (eqF_cons _ _ _ _ _ .u64 .u64 _ _ (by decide) (part_int 22 _ _ _ Try.isAgg22 rfl _) (part_int 22 _ _ _ Try.isAgg22 rfl _) Try.underlying22 (eqF_cons _ _ _ _ _ .u32 .u32 _ _ (by decide) (part_int 23 _ _ _ Try.isAgg23 rfl _) (part_int 23 _ _ _ Try.isAgg23 rfl _) Try.underlying23 (eqF_cons _ _ _ _ _ .i64 .i64 _ _ (by decide) (part_int 3 _ _ _ Try.isAgg3 rfl _) (part_int 3 _ _ _ Try.isAgg3 rfl _) Try.underlying3 (eqF_cons _ _ _ _ _ .i64 .i64 _ _ (by decide) (part_int 3 _ _ _ Try.isAgg3 rfl _) (part_int 3 _ _ _ Try.isAgg3 rfl _) Try.underlying3 (eqF_cons _ _ _ _ _ .i64 .i64 _ _ (by decide) (part_int 3 _ _ _ Try.isAgg3 rfl _) (part_int 3 _ _ _ Try.isAgg3 rfl _) Try.underlying3 (eqF_cons _ _ _ _ _ .u64 .u64 _ _ (by decide) (part_int 22 _ _ _ Try.isAgg22 rfl _) (part_int 22 _ _ _ Try.isAgg22 rfl _) Try.underlying22 (eqF_cons _ _ _ _ _ .u64 .u64 _ _ (by decide) (part_int 22 _ _ _ Try.isAgg22 rfl _) (part_int 22 _ _ _ Try.isAgg22 rfl _) Try.underlying22 (eqF_cons _ _ _ _ _ .i64 .i64 _ _ (by decide) (part_int 3 _ _ _ Try.isAgg3 rfl _) (part_int 3 _ _ _ Try.isAgg3 rfl _) Try.underlying3 (eqF_cons _ _ _ _ _ .i64 .i64 _ _ (by decide) (part_int 31 _ _ _ Try.isAgg31 rfl _) (part_int 31 _ _ _ Try.isAgg31 rfl _) Try.underlying31 (eqF_nil _ _ _ _)))))))))))))
theorem eq_word (d : Nat) (a b : Int) (w : World) : (Op.equalIn (d + 1) 22 (.int .u64 a) (.int .u64 b)).run Try.prog w = .ok (a == b) w := run_equalIn_int w d 22 .u64 .u64 a b Try.underlying22
set_option maxRecDepth 100000 in
theorem eqW (x0 x1 x2 x3 x4 x5 x6 y0 y1 y2 y3 y4 y5 y6 : Int) (d : Nat) (w : World) : (Op.equalIn (d + 2) 28 (.agg #[.int .u64 x0, .int .u64 x1, .int .u64 x2, .int .u64 x3, .int .u64 x4, .int .u64 x5, .int .u64 x6]) (.agg #[.int .u64 y0, .int .u64 y1, .int .u64 y2, .int .u64 y3, .int .u64 y4, .int .u64 y5, .int .u64 y6])).run Try.prog w = .ok ((x0 == y0) && ((x1 == y1) && ((x2 == y2) && ((x3 == y3) && ((x4 == y4) && ((x5 == y5) && ((x6 == y6) && true))))))) w := by
  have a3' := Try.isAgg22
  have z3 := Try.sizeOf22
  rw [Op.equalIn]
  simp only [Sem.run_bind, run_underlying Try.underlying28, Result.andThen_ok]
  simp only [Std.Legacy.Range.forIn_eq_forIn_range', Std.Legacy.Range.size, Nat.sub_zero, Nat.add_sub_cancel, Nat.div_one, List.range'_succ, List.range'_zero, List.forIn_cons, List.forIn_nil]
  by_cases g0 : ¬ x0 = y0
  · simp [part, z3, a3', Sem.run_bind, eq_word, g0]
  have h0 := Decidable.not_not.1 g0
  clear g0
  by_cases g1 : ¬ x1 = y1
  · simp [part, z3, a3', Sem.run_bind, eq_word, h0, g1]
  have h1 := Decidable.not_not.1 g1
  clear g1
  by_cases g2 : ¬ x2 = y2
  · simp [part, z3, a3', Sem.run_bind, eq_word, h0, h1, g2]
  have h2 := Decidable.not_not.1 g2
  clear g2
  by_cases g3 : ¬ x3 = y3
  · simp [part, z3, a3', Sem.run_bind, eq_word, h0, h1, h2, g3]
  have h3 := Decidable.not_not.1 g3
  clear g3
  by_cases g4 : ¬ x4 = y4
  · simp [part, z3, a3', Sem.run_bind, eq_word, h0, h1, h2, h3, g4]
  have h4 := Decidable.not_not.1 g4
  clear g4
  by_cases g5 : ¬ x5 = y5
  · simp [part, z3, a3', Sem.run_bind, eq_word, h0, h1, h2, h3, h4, g5]
  have h5 := Decidable.not_not.1 g5
  clear g5
  by_cases g6 : ¬ x6 = y6
  · simp [part, z3, a3', Sem.run_bind, eq_word, h0, h1, h2, h3, h4, h5, g6]
  have h6 := Decidable.not_not.1 g6
  clear g6
  simp [part, z3, a3', Sem.run_bind, eq_word, h0, h1, h2, h3, h4, h5, h6]
theorem part_words (k x0 x1 x2 x3 x4 x5 x6 : Int) (w : World) : (part 28 (frV k [x0, x1, x2, x3, x4, x5, x6]) 1).run Try.prog w = .ok (.agg #[.int .u64 x0, .int .u64 x1, .int .u64 x2, .int .u64 x3, .int .u64 x4, .int .u64 x5, .int .u64 x6]) w := by
  have a := Try.isAgg28
  have z := Try.sizeOf28
  simp [part, Sem.run_bind, a, z, frV, uv]
theorem eqFr (k l x0 x1 x2 x3 x4 x5 x6 y0 y1 y2 y3 y4 y5 y6 : Int) (w : World) : (Op.equalIn 10000 30 (.agg (frV k [x0, x1, x2, x3, x4, x5, x6])) (.agg (frV l [y0, y1, y2, y3, y4, y5, y6]))).run Try.prog w = .ok ((k == l) && (((x0 == y0) && ((x1 == y1) && ((x2 == y2) && ((x3 == y3) && ((x4 == y4) && ((x5 == y5) && ((x6 == y6) && true))))))) && true)) w := by
  rw [show (10000 : Nat) = 9999 + 1 from rfl, run_equalIn_struct w 9999 30 _ _ under30 stood30]
  simp only [Program.fieldsOf, Try.underlying30]
  exact eqF_cons 9998 _ _ _ _ .u8 .u8 _ _ (by decide) (part_int 5 _ _ _ Try.isAgg5 rfl _) (part_int 5 _ _ _ Try.isAgg5 rfl _) Try.underlying5 (eqF_any 9999 _ _ _ _ _ _ _ (by decide) (part_words _ _ _ _ _ _ _ _ _) (part_words _ _ _ _ _ _ _ _ _) (eqW _ _ _ _ _ _ _ _ _ _ _ _ _ _ 9997 w) (eqF_nil _ _ _ _))
end Go.Proofs.Ytnhipamajelalaa
