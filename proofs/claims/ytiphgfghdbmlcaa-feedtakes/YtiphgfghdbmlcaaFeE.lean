/-
  Structs compared.
-/
import Derived.Test.YtiphgfghdbmlcaaFeR
namespace Go.Proofs.Ytiphgfghdbmlcaa
open Go.RowKit Go.Deep
set_option linter.unusedVariables false
set_option linter.unusedSimpArgs false
set_option maxHeartbeats 1000000
set_option maxRecDepth 100000
theorem eqF_nil (d : Nat) (xs ys : Array Value) (w : World) : (Op.eqFields d xs ys []).run Try.prog w = .ok true w := by simp [Op.eqFields]
theorem eqF_any (d : Nat) (xs ys : Array Value) (f : Field) (fs : List Field) (u v : Value) (c : Bool) {r : Bool} {w : World} (hn : f.name ≠ "_") (hx : (part f.type xs f.offset).run Try.prog w = .ok u w) (hy : (part f.type ys f.offset).run Try.prog w = .ok v w)
    (hq : (Op.equalIn d f.type u v).run Try.prog w = .ok c w) (hr : (Op.eqFields d xs ys fs).run Try.prog w = .ok r w) : (Op.eqFields d xs ys (f :: fs)).run Try.prog w = .ok (c && r) w := by
  simp only [Op.eqFields, if_pos hn, Sem.run_bind, hx, hy, hq, Result.andThen_ok, Sem.run_ite]
  cases c
  · simp
  · simp [hr]
theorem eqF_cons (d : Nat) (xs ys : Array Value) (f : Field) (fs : List Field) (k k' : IntKind) (a b : Int) {r : Bool} {w : World} (hn : f.name ≠ "_") (hx : (part f.type xs f.offset).run Try.prog w = .ok (.int k a) w) (hy : (part f.type ys f.offset).run Try.prog w = .ok (.int k b) w)
    (hu : Try.prog.underlying f.type = some (.int k')) (hr : (Op.eqFields (d + 1) xs ys fs).run Try.prog w = .ok r w) : (Op.eqFields (d + 1) xs ys (f :: fs)).run Try.prog w = .ok ((a == b) && r) w :=
  eqF_any (d + 1) xs ys f fs _ _ (a == b) hn hx hy (run_equalIn_int w d f.type k k' a b hu) hr
theorem part_int (t : TypeId) (xs : Array Value) (o : Nat) (v : Value) (ha : ∀ w, (isAgg t).run Try.prog w = .ok false w) (h : xs[o]? = some v) (w : World) : (part t xs o).run Try.prog w = .ok v w := by
  simp [part, Sem.run_bind, ha, h]
theorem underL : Try.prog.underlying 89 = some (.struct (Try.prog.fieldsOf 89)) := by kernel_rfl
theorem underD : Try.prog.underlying 48 = some (.struct (Try.prog.fieldsOf 48)) := by kernel_rfl
theorem underF : Try.prog.underlying 70 = some (.struct (Try.prog.fieldsOf 70)) := by kernel_rfl
theorem stoodL : Try.prog.stoodInHeld 89 = false := by kernel_rfl
theorem stoodD : Try.prog.stoodInHeld 48 = false := by kernel_rfl
theorem stoodF : Try.prog.stoodInHeld 70 = false := by kernel_rfl
theorem eqL (x0 x1 x2 y0 y1 y2 : Int) (w : World) : (Op.equalIn 10000 89 (.agg #[.int .i64 x0, .int .u64 x1, .int .i64 x2]) (.agg #[.int .i64 y0, .int .u64 y1, .int .i64 y2])).run Try.prog w = .ok ((x0 == y0) && ((x1 == y1) && ((x2 == y2) && true))) w := by
  rw [show (10000 : Nat) = 9999 + 1 from rfl, run_equalIn_struct w 9999 89 _ _ underL stoodL]
  simp only [Program.fieldsOf, Try.underlying89]
  exact eqF_cons _ _ _ _ _ .i64 .i64 _ _ (by decide) (part_int 3 _ _ _ Try.isAgg3 rfl _) (part_int 3 _ _ _ Try.isAgg3 rfl _) Try.underlying3 (eqF_cons _ _ _ _ _ .u64 .u64 _ _ (by decide) (part_int 27 _ _ _ Try.isAgg27 rfl _) (part_int 27 _ _ _ Try.isAgg27 rfl _) Try.underlying27 (eqF_cons _ _ _ _ _ .i64 .i64 _ _ (by decide) (part_int 3 _ _ _ Try.isAgg3 rfl _) (part_int 3 _ _ _ Try.isAgg3 rfl _) Try.underlying3 (eqF_nil _ _ _ _)))
theorem eqD (x0 x1 x2 x3 x4 x5 y0 y1 y2 y3 y4 y5 : Int) (w : World) : (Op.equalIn 10000 48 (.agg #[.int .u64 x0, .int .i64 x1, .int .i64 x2, .int .i64 x3, .int .u64 x4, .int .i64 x5]) (.agg #[.int .u64 y0, .int .i64 y1, .int .i64 y2, .int .i64 y3, .int .u64 y4, .int .i64 y5])).run Try.prog w = .ok ((x0 == y0) && ((x1 == y1) && ((x2 == y2) && ((x3 == y3) && ((x4 == y4) && ((x5 == y5) && true)))))) w := by
  rw [show (10000 : Nat) = 9999 + 1 from rfl, run_equalIn_struct w 9999 48 _ _ underD stoodD]
  simp only [Program.fieldsOf, Try.underlying48]
  exact eqF_cons _ _ _ _ _ .u64 .u64 _ _ (by decide) (part_int 27 _ _ _ Try.isAgg27 rfl _) (part_int 27 _ _ _ Try.isAgg27 rfl _) Try.underlying27 (eqF_cons _ _ _ _ _ .i64 .i64 _ _ (by decide) (part_int 3 _ _ _ Try.isAgg3 rfl _) (part_int 3 _ _ _ Try.isAgg3 rfl _) Try.underlying3 (eqF_cons _ _ _ _ _ .i64 .i64 _ _ (by decide) (part_int 3 _ _ _ Try.isAgg3 rfl _) (part_int 3 _ _ _ Try.isAgg3 rfl _) Try.underlying3 (eqF_cons _ _ _ _ _ .i64 .i64 _ _ (by decide) (part_int 3 _ _ _ Try.isAgg3 rfl _) (part_int 3 _ _ _ Try.isAgg3 rfl _) Try.underlying3 (eqF_cons _ _ _ _ _ .u64 .u64 _ _ (by decide) (part_int 27 _ _ _ Try.isAgg27 rfl _) (part_int 27 _ _ _ Try.isAgg27 rfl _) Try.underlying27 (eqF_cons _ _ _ _ _ .i64 .i64 _ _ (by decide) (part_int 3 _ _ _ Try.isAgg3 rfl _) (part_int 3 _ _ _ Try.isAgg3 rfl _) Try.underlying3 (eqF_nil _ _ _ _))))))
theorem eq_word (d : Nat) (a b : Int) (w : World) : (Op.equalIn (d + 1) 27 (.int .u64 a) (.int .u64 b)).run Try.prog w = .ok (a == b) w := run_equalIn_int w d 27 .u64 .u64 a b Try.underlying27
set_option maxRecDepth 100000 in
theorem eqW (x0 x1 x2 x3 x4 x5 x6 y0 y1 y2 y3 y4 y5 y6 : Int) (d : Nat) (w : World) : (Op.equalIn (d + 2) 68 (.agg #[.int .u64 x0, .int .u64 x1, .int .u64 x2, .int .u64 x3, .int .u64 x4, .int .u64 x5, .int .u64 x6]) (.agg #[.int .u64 y0, .int .u64 y1, .int .u64 y2, .int .u64 y3, .int .u64 y4, .int .u64 y5, .int .u64 y6])).run Try.prog w = .ok ((x0 == y0) && ((x1 == y1) && ((x2 == y2) && ((x3 == y3) && ((x4 == y4) && ((x5 == y5) && ((x6 == y6) && true))))))) w := by
  have a3' := Try.isAgg27
  have z3 := Try.sizeOf27
  rw [Op.equalIn]
  simp only [Sem.run_bind, run_underlying Try.underlying68, Result.andThen_ok]
  simp only [Std.Legacy.Range.forIn_eq_forIn_range', Std.Legacy.Range.size, Nat.sub_zero, Nat.add_sub_cancel, Nat.div_one, List.range'_succ, List.range'_zero, List.forIn_cons, List.forIn_nil]
  by_cases g0 : ¬ x0 = y0
  · simp [part, z3, a3', Sem.run_bind, eq_word, g0]
  have h0 := Decidable.not_not.1 g0
  clear g0
  by_cases g1 : ¬ x1 = y1
  · simp [part, z3, a3', Sem.run_bind, eq_word, h0, g1]
  have h1 := Decidable.not_not.1 g1
  clear g1
  by_cases g2 : ¬ x2 = y2
  · simp [part, z3, a3', Sem.run_bind, eq_word, h0, h1, g2]
  have h2 := Decidable.not_not.1 g2
  clear g2
  by_cases g3 : ¬ x3 = y3
  · simp [part, z3, a3', Sem.run_bind, eq_word, h0, h1, h2, g3]
  have h3 := Decidable.not_not.1 g3
  clear g3
  by_cases g4 : ¬ x4 = y4
  · simp [part, z3, a3', Sem.run_bind, eq_word, h0, h1, h2, h3, g4]
  have h4 := Decidable.not_not.1 g4
  clear g4
  by_cases g5 : ¬ x5 = y5
  · simp [part, z3, a3', Sem.run_bind, eq_word, h0, h1, h2, h3, h4, g5]
  have h5 := Decidable.not_not.1 g5
  clear g5
  by_cases g6 : ¬ x6 = y6
  · simp [part, z3, a3', Sem.run_bind, eq_word, h0, h1, h2, h3, h4, h5, g6]
  have h6 := Decidable.not_not.1 g6
  clear g6
  simp [part, z3, a3', Sem.run_bind, eq_word, h0, h1, h2, h3, h4, h5, h6]
theorem part_words (k x0 x1 x2 x3 x4 x5 x6 : Int) (w : World) : (part 68 (#[.int .u8 k, .int .u64 x0, .int .u64 x1, .int .u64 x2, .int .u64 x3, .int .u64 x4, .int .u64 x5, .int .u64 x6]) 1).run Try.prog w = .ok (.agg #[.int .u64 x0, .int .u64 x1, .int .u64 x2, .int .u64 x3, .int .u64 x4, .int .u64 x5, .int .u64 x6]) w := by
  have a := Try.isAgg68
  have z := Try.sizeOf68
  simp [part, Sem.run_bind, a, z]
theorem eqFr (k l x0 x1 x2 x3 x4 x5 x6 y0 y1 y2 y3 y4 y5 y6 : Int) (w : World) : (Op.equalIn 10000 70 (.agg #[.int .u8 k, .int .u64 x0, .int .u64 x1, .int .u64 x2, .int .u64 x3, .int .u64 x4, .int .u64 x5, .int .u64 x6]) (.agg #[.int .u8 l, .int .u64 y0, .int .u64 y1, .int .u64 y2, .int .u64 y3, .int .u64 y4, .int .u64 y5, .int .u64 y6])).run Try.prog w = .ok ((k == l) && (((x0 == y0) && ((x1 == y1) && ((x2 == y2) && ((x3 == y3) && ((x4 == y4) && ((x5 == y5) && ((x6 == y6) && true))))))) && true)) w := by
  rw [show (10000 : Nat) = 9999 + 1 from rfl, run_equalIn_struct w 9999 70 _ _ underF stoodF]
  simp only [Program.fieldsOf, Try.underlying70]
  exact eqF_cons 9998 _ _ _ _ .u8 .u8 _ _ (by decide) (part_int 5 _ _ _ Try.isAgg5 rfl _) (part_int 5 _ _ _ Try.isAgg5 rfl _) Try.underlying5 (eqF_any 9999 _ _ _ _ _ _ _ (by decide) (part_words _ _ _ _ _ _ _ _ _) (part_words _ _ _ _ _ _ _ _ _) (eqW _ _ _ _ _ _ _ _ _ _ _ _ _ _ 9997 w) (eqF_nil _ _ _ _))
theorem eqL_at (x y : Lv) (w : World) : (Op.equalIn 10000 89 (.agg #[.int .i64 x.pr, .int .u64 x.qt, .int .i64 x.ct]) (.agg #[.int .i64 y.pr, .int .u64 y.qt, .int .i64 y.ct])).run Try.prog w = .ok (decide (x = y)) w := by
  rw [eqL]
  congr 1
  rw [Bool.eq_iff_iff]
  cases x; cases y
  simp [and_assoc]
theorem eqD_at (x y : Dm) (w : World) : (Op.equalIn 10000 48 (.agg #[.int .u64 x.sq, .int .i64 x.kd, .int .i64 x.sd, .int .i64 x.pr, .int .u64 x.qt, .int .i64 x.ct]) (.agg #[.int .u64 y.sq, .int .i64 y.kd, .int .i64 y.sd, .int .i64 y.pr, .int .u64 y.qt, .int .i64 y.ct])).run Try.prog w = .ok (decide (x = y)) w := by
  rw [eqD]
  congr 1
  rw [Bool.eq_iff_iff]
  cases x; cases y
  simp [and_assoc]
theorem eqD_same (x : Dm) (w : World) : (Op.equalIn 10000 48 (.agg #[.int .u64 x.sq, .int .i64 x.kd, .int .i64 x.sd, .int .i64 x.pr, .int .u64 x.qt, .int .i64 x.ct]) (.agg #[.int .u64 x.sq, .int .i64 x.kd, .int .i64 x.sd, .int .i64 x.pr, .int .u64 x.qt, .int .i64 x.ct])).run Try.prog w = .ok true w := by rw [eqD_at]; simp
theorem eqFr_same (k a0 a1 a2 a3 a4 a5 a6 : Int) (w : World) : (Op.equalIn 10000 70 (.agg #[.int .u8 k, .int .u64 a0, .int .u64 a1, .int .u64 a2, .int .u64 a3, .int .u64 a4, .int .u64 a5, .int .u64 a6]) (.agg #[.int .u8 k, .int .u64 a0, .int .u64 a1, .int .u64 a2, .int .u64 a3, .int .u64 a4, .int .u64 a5, .int .u64 a6])).run Try.prog w = .ok true w := by
  have h := eqFr k k a0 a1 a2 a3 a4 a5 a6 a0 a1 a2 a3 a4 a5 a6 w
  simpa using h
end Go.Proofs.Ytiphgfghdbmlcaa
