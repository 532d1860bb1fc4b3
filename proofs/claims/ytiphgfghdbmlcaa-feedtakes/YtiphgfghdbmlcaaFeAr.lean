/-
  What came in: messages, frames.
-/
import Derived.Test.YtiphgfghdbmlcaaFeP
import Derived.ProofKit
import Derived.OpenShut
import Derived.JoinedCond
import Derived.ChangeSlices
import Derived.ChangeOld
import Derived.ChangeArms
import Derived.Below
import Derived.Lib.SmallJoins
namespace Go.Proofs.Ytiphgfghdbmlcaa
open Go.ChangeShapes Go.WideShapes Go.ChangeAt Go.RowKit Go.Joins Go.Deep
set_option linter.unusedVariables false
set_option linter.unusedSimpArgs false
theorem own : ownKnob Try.prog.godebug = none := by kernel_rfl
theorem laidOut : laidOutB Try.prog = true := by kernel_rfl
theorem cellsD : Try.prog.cellsOf 48 = 6 := by kernel_rfl
theorem cellsF : Try.prog.cellsOf 70 = 8 := by kernel_rfl
theorem cellsW : Try.prog.cellsOf 68 = 7 := by kernel_rfl
theorem cells3 : Try.prog.cellsOf 3 = 1 := by kernel_rfl
theorem cells5 : Try.prog.cellsOf 5 = 1 := by kernel_rfl
theorem cellsU : Try.prog.cellsOf 27 = 1 := by kernel_rfl
/-- what a message's cells hold. -/
structure DmOk (d : Dm) : Prop where
  sq : 0 ≤ d.sq ∧ d.sq ≤ 18446744073709551615
  kd : -9223372036854775808 ≤ d.kd ∧ d.kd ≤ 9223372036854775807
  sd : -9223372036854775808 ≤ d.sd ∧ d.sd ≤ 9223372036854775807
  pr : -9223372036854775808 ≤ d.pr ∧ d.pr ≤ 9223372036854775807
  qt : 0 ≤ d.qt ∧ d.qt ≤ 18446744073709551615
  ct : -9223372036854775808 ≤ d.ct ∧ d.ct ≤ 9223372036854775807
section
variable {H : Type} {enc : TypeId × Value → H} {W : World} {base b0 : Nat} {spare : Nat → Bool} {held : Bool} {r : Reach}
set_option maxRecDepth 100000 in
theorem open_dm {n : Nat} {c0 c1 c2 c3 c4 c5 : Value} {y : DataW H × List MemPlace} (h : DataW.trod enc Try.prog W base spare held n 48 [c0, c1, c2, c3, c4, c5] = some y) :
    ∃ d : Dm, c0 = .int .u64 d.sq ∧ c1 = .int .i64 d.kd ∧ c2 = .int .i64 d.sd ∧ c3 = .int .i64 d.pr ∧ c4 = .int .u64 d.qt ∧ c5 = .int .i64 d.ct ∧ DmOk d := by
  obtain ⟨xs, m, _, _, _, hlen, hf⟩ := DataW.trod_struct Try.underlying48 h
  have g0 : DataW.trod enc Try.prog W base spare held m 27 (([c0, c1, c2, c3, c4, c5].drop 0).take (Try.prog.cellsOf 27)) = xs[0]? := hf 0 _ rfl
  rw [List.getElem?_eq_getElem (by rw [hlen]; exact (by decide : 0 < 6)), cellsU] at g0
  simp only [List.drop_zero, List.take_succ_cons, List.take_zero, List.drop_succ_cons] at g0
  obtain ⟨a0, e0, _, w0⟩ := DataW.trod_int Try.underlying27 g0
  have g1 : DataW.trod enc Try.prog W base spare held m 3 (([c0, c1, c2, c3, c4, c5].drop 1).take (Try.prog.cellsOf 3)) = xs[1]? := hf 1 _ rfl
  rw [List.getElem?_eq_getElem (by rw [hlen]; exact (by decide : 1 < 6)), cells3] at g1
  simp only [List.drop_zero, List.take_succ_cons, List.take_zero, List.drop_succ_cons] at g1
  obtain ⟨a1, e1, _, w1⟩ := DataW.trod_int Try.underlying3 g1
  have g2 : DataW.trod enc Try.prog W base spare held m 3 (([c0, c1, c2, c3, c4, c5].drop 2).take (Try.prog.cellsOf 3)) = xs[2]? := hf 2 _ rfl
  rw [List.getElem?_eq_getElem (by rw [hlen]; exact (by decide : 2 < 6)), cells3] at g2
  simp only [List.drop_zero, List.take_succ_cons, List.take_zero, List.drop_succ_cons] at g2
  obtain ⟨a2, e2, _, w2⟩ := DataW.trod_int Try.underlying3 g2
  have g3 : DataW.trod enc Try.prog W base spare held m 3 (([c0, c1, c2, c3, c4, c5].drop 3).take (Try.prog.cellsOf 3)) = xs[3]? := hf 3 _ rfl
  rw [List.getElem?_eq_getElem (by rw [hlen]; exact (by decide : 3 < 6)), cells3] at g3
  simp only [List.drop_zero, List.take_succ_cons, List.take_zero, List.drop_succ_cons] at g3
  obtain ⟨a3, e3, _, w3⟩ := DataW.trod_int Try.underlying3 g3
  have g4 : DataW.trod enc Try.prog W base spare held m 27 (([c0, c1, c2, c3, c4, c5].drop 4).take (Try.prog.cellsOf 27)) = xs[4]? := hf 4 _ rfl
  rw [List.getElem?_eq_getElem (by rw [hlen]; exact (by decide : 4 < 6)), cellsU] at g4
  simp only [List.drop_zero, List.take_succ_cons, List.take_zero, List.drop_succ_cons] at g4
  obtain ⟨a4, e4, _, w4⟩ := DataW.trod_int Try.underlying27 g4
  have g5 : DataW.trod enc Try.prog W base spare held m 3 (([c0, c1, c2, c3, c4, c5].drop 5).take (Try.prog.cellsOf 3)) = xs[5]? := hf 5 _ rfl
  rw [List.getElem?_eq_getElem (by rw [hlen]; exact (by decide : 5 < 6)), cells3] at g5
  simp only [List.drop_zero, List.take_succ_cons, List.take_zero, List.drop_succ_cons] at g5
  obtain ⟨a5, e5, _, w5⟩ := DataW.trod_int Try.underlying3 g5
  simp at e0 e1 e2 e3 e4 e5
  exact ⟨⟨a0, a1, a2, a3, a4, a5⟩, e0, e1, e2, e3, e4, e5, bounds_u64 w0, bounds_i64 w1, bounds_i64 w2, bounds_i64 w3, bounds_u64 w4, bounds_i64 w5⟩
set_option maxRecDepth 100000 in
theorem open_data {v : Value} {d : DataW H} {p : List MemPlace} (hv : Value.okWide Try.prog W r b0 48 v) (h : DataW.Trod enc Try.prog W base spare held 48 v d p) :
    ∃ x : Dm, v = .agg #[.int .u64 x.sq, .int .i64 x.kd, .int .i64 x.sd, .int .i64 x.pr, .int .u64 x.qt, .int .i64 x.ct] ∧ DmOk x := by
  obtain ⟨cs, rfl, hsz⟩ := okWide_struct Try.underlying48 hv
  rw [cellsD] at hsz
  obtain ⟨fuel, hf⟩ := h
  obtain ⟨l⟩ := cs
  match l, hsz with
  | [c0, c1, c2, c3, c4, c5], _ =>
    obtain ⟨x, rfl, rfl, rfl, rfl, rfl, rfl, hx⟩ := open_dm hf
    exact ⟨x, rfl, hx⟩
set_option maxRecDepth 100000 in
theorem open_frm {v : Value} {d : DataW H} {p : List MemPlace} (hv : Value.okWide Try.prog W r b0 70 v) (h : DataW.Trod enc Try.prog W base spare held 70 v d p) :
    ∃ k a0 a1 a2 a3 a4 a5 a6 : Int, v = .agg #[.int .u8 k, .int .u64 a0, .int .u64 a1, .int .u64 a2, .int .u64 a3, .int .u64 a4, .int .u64 a5, .int .u64 a6] ∧ (0 ≤ k ∧ k ≤ 255) ∧ (0 ≤ a0 ∧ a0 < 18446744073709551616) ∧ (0 ≤ a1 ∧ a1 < 18446744073709551616) ∧ (0 ≤ a2 ∧ a2 < 18446744073709551616) ∧ (0 ≤ a3 ∧ a3 < 18446744073709551616) ∧ (0 ≤ a4 ∧ a4 < 18446744073709551616) := by
  obtain ⟨cs, rfl, hsz⟩ := okWide_struct Try.underlying70 hv
  rw [cellsF] at hsz
  obtain ⟨fuel, hf⟩ := h
  obtain ⟨y0, y1, n, hx, _, h0, h1⟩ := trod_struct2 Try.underlying70 hf
  obtain ⟨l⟩ := cs
  match l, hsz with
  | [c0, c1, c2, c3, c4, c5, c6, c7], _ =>
    simp only [Value.cells, cells5, cellsW, List.drop_zero, List.take_succ_cons, List.take_zero, List.drop_succ_cons] at h0 h1
    obtain ⟨k, e0, _, wk⟩ := DataW.trod_int Try.underlying5 h0
    obtain ⟨xs, m, _, _, _, hn, hel⟩ := DataW.trod_array Try.underlying68 h1
    have g : ∀ i, i < 7 → ∃ n : Int, (([c1, c2, c3, c4, c5, c6, c7].drop i).take 1) = [.int .u64 n] ∧ (0 ≤ n ∧ n < 18446744073709551616) := by
      intro i hi
      have hh := hel i hi
      rw [cellsU, List.getElem?_eq_getElem (by omega), Nat.mul_one] at hh
      obtain ⟨a, ea, _, wa⟩ := DataW.trod_int Try.underlying27 hh
      have := bounds_u64 wa
      exact ⟨a, ea, by omega⟩
    obtain ⟨w0, e1, b1⟩ := g 0 (by decide)
    obtain ⟨w1, e2, b2⟩ := g 1 (by decide)
    obtain ⟨w2, e3, b3⟩ := g 2 (by decide)
    obtain ⟨w3, e4, b4⟩ := g 3 (by decide)
    obtain ⟨w4, e5, b5⟩ := g 4 (by decide)
    obtain ⟨w5, e6, b6⟩ := g 5 (by decide)
    obtain ⟨w6, e7, b7⟩ := g 6 (by decide)
    have bk := bounds_u8 wk
    simp at e0 e1 e2 e3 e4 e5 e6 e7
    subst e0 e1 e2 e3 e4 e5 e6 e7
    exact ⟨k, w0, w1, w2, w3, w4, w5, w6, rfl, bk, b1, b2, b3, b4, b5⟩
end
end Go.Proofs.Ytiphgfghdbmlcaa
