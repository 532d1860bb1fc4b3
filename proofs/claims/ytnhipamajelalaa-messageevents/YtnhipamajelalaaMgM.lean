/-
  What came in: inputs, events, frames.
-/
import Derived.Test.YtnhipamajelalaaMgA
import Derived.Test.YtnhipamajelalaaMgJ
import Derived.ProofKit
import Derived.OpenShut
import Derived.ChangeOld
import Derived.Below
import Derived.Lib.SmallJoins
namespace Go.Proofs.Ytnhipamajelalaa
open Go.ChangeShapes Go.WideShapes Go.ChangeAt Go.RowKit Go.Joins
set_option linter.unusedVariables false
set_option linter.unusedSimpArgs false

theorem own : ownKnob Try.prog.godebug = none := by kernel_rfl
theorem laidOut : laidOutB Try.prog = true := by kernel_rfl
theorem cells27 : Try.prog.cellsOf 27 = 11 := by kernel_rfl
theorem cells25 : Try.prog.cellsOf 25 = 9 := by kernel_rfl
theorem cells39 : Try.prog.cellsOf 39 = 13 := by kernel_rfl
theorem cells30 : Try.prog.cellsOf 30 = 8 := by kernel_rfl
theorem cells28 : Try.prog.cellsOf 28 = 7 := by kernel_rfl
theorem cells3 : Try.prog.cellsOf 3 = 1 := by kernel_rfl
theorem cells5 : Try.prog.cellsOf 5 = 1 := by kernel_rfl
theorem cells22 : Try.prog.cellsOf 22 = 1 := by kernel_rfl
theorem cells23 : Try.prog.cellsOf 23 = 1 := by kernel_rfl
theorem cells31 : Try.prog.cellsOf 31 = 1 := by kernel_rfl
section
variable {H : Type} {enc : TypeId × Value → H} {W : World} {base b0 : Nat} {spare : Nat → Bool} {held : Bool} {r : Reach}
theorem open_cmd {n : Nat} {c1 c2 c3 c4 c5 c6 c7 c8 c9 : Value} {y : DataW H × List MemPlace} (h : DataW.trod enc Try.prog W base spare held n 25 [c1, c2, c3, c4, c5, c6, c7, c8, c9] = some y) :
    ∃ a1 a2 a3 a4 a5 a6 a7 a8 a9 : Int, c1 = .int .i64 a1 ∧ c2 = .int .u64 a2 ∧ c3 = .int .u64 a3 ∧ c4 = .int .u32 a4 ∧ c5 = .int .i64 a5 ∧ c6 = .int .i64 a6 ∧ c7 = .int .i64 a7 ∧ c8 = .int .u64 a8 ∧ c9 = .int .u64 a9 ∧
      (Lit.int .i64 a1).wf = true ∧ (Lit.int .u64 a2).wf = true ∧ (Lit.int .u64 a3).wf = true ∧ (Lit.int .u32 a4).wf = true ∧ (Lit.int .i64 a5).wf = true ∧ (Lit.int .i64 a6).wf = true ∧ (Lit.int .i64 a7).wf = true ∧ (Lit.int .u64 a8).wf = true ∧ (Lit.int .u64 a9).wf = true := by
  obtain ⟨xs, m, _, _, _, hlen, hf⟩ := DataW.trod_struct Try.underlying25 h
  have g0 : DataW.trod enc Try.prog W base spare held m 3 (([c1, c2, c3, c4, c5, c6, c7, c8, c9].drop 0).take (Try.prog.cellsOf 3)) = xs[0]? := hf 0 _ rfl
  rw [List.getElem?_eq_getElem (by rw [hlen]; exact (by decide : 0 < 9)), cells3] at g0
  simp only [List.drop_zero, List.take_succ_cons, List.take_zero, List.drop_succ_cons] at g0
  obtain ⟨a1, e1, _, wf1⟩ := DataW.trod_int Try.underlying3 g0
  have g1 : DataW.trod enc Try.prog W base spare held m 22 (([c1, c2, c3, c4, c5, c6, c7, c8, c9].drop 1).take (Try.prog.cellsOf 22)) = xs[1]? := hf 1 _ rfl
  rw [List.getElem?_eq_getElem (by rw [hlen]; exact (by decide : 1 < 9)), cells22] at g1
  simp only [List.drop_zero, List.take_succ_cons, List.take_zero, List.drop_succ_cons] at g1
  obtain ⟨a2, e2, _, wf2⟩ := DataW.trod_int Try.underlying22 g1
  have g2 : DataW.trod enc Try.prog W base spare held m 22 (([c1, c2, c3, c4, c5, c6, c7, c8, c9].drop 2).take (Try.prog.cellsOf 22)) = xs[2]? := hf 2 _ rfl
  rw [List.getElem?_eq_getElem (by rw [hlen]; exact (by decide : 2 < 9)), cells22] at g2
  simp only [List.drop_zero, List.take_succ_cons, List.take_zero, List.drop_succ_cons] at g2
  obtain ⟨a3, e3, _, wf3⟩ := DataW.trod_int Try.underlying22 g2
  have g3 : DataW.trod enc Try.prog W base spare held m 23 (([c1, c2, c3, c4, c5, c6, c7, c8, c9].drop 3).take (Try.prog.cellsOf 23)) = xs[3]? := hf 3 _ rfl
  rw [List.getElem?_eq_getElem (by rw [hlen]; exact (by decide : 3 < 9)), cells23] at g3
  simp only [List.drop_zero, List.take_succ_cons, List.take_zero, List.drop_succ_cons] at g3
  obtain ⟨a4, e4, _, wf4⟩ := DataW.trod_int Try.underlying23 g3
  have g4 : DataW.trod enc Try.prog W base spare held m 3 (([c1, c2, c3, c4, c5, c6, c7, c8, c9].drop 4).take (Try.prog.cellsOf 3)) = xs[4]? := hf 4 _ rfl
  rw [List.getElem?_eq_getElem (by rw [hlen]; exact (by decide : 4 < 9)), cells3] at g4
  simp only [List.drop_zero, List.take_succ_cons, List.take_zero, List.drop_succ_cons] at g4
  obtain ⟨a5, e5, _, wf5⟩ := DataW.trod_int Try.underlying3 g4
  have g5 : DataW.trod enc Try.prog W base spare held m 3 (([c1, c2, c3, c4, c5, c6, c7, c8, c9].drop 5).take (Try.prog.cellsOf 3)) = xs[5]? := hf 5 _ rfl
  rw [List.getElem?_eq_getElem (by rw [hlen]; exact (by decide : 5 < 9)), cells3] at g5
  simp only [List.drop_zero, List.take_succ_cons, List.take_zero, List.drop_succ_cons] at g5
  obtain ⟨a6, e6, _, wf6⟩ := DataW.trod_int Try.underlying3 g5
  have g6 : DataW.trod enc Try.prog W base spare held m 3 (([c1, c2, c3, c4, c5, c6, c7, c8, c9].drop 6).take (Try.prog.cellsOf 3)) = xs[6]? := hf 6 _ rfl
  rw [List.getElem?_eq_getElem (by rw [hlen]; exact (by decide : 6 < 9)), cells3] at g6
  simp only [List.drop_zero, List.take_succ_cons, List.take_zero, List.drop_succ_cons] at g6
  obtain ⟨a7, e7, _, wf7⟩ := DataW.trod_int Try.underlying3 g6
  have g7 : DataW.trod enc Try.prog W base spare held m 22 (([c1, c2, c3, c4, c5, c6, c7, c8, c9].drop 7).take (Try.prog.cellsOf 22)) = xs[7]? := hf 7 _ rfl
  rw [List.getElem?_eq_getElem (by rw [hlen]; exact (by decide : 7 < 9)), cells22] at g7
  simp only [List.drop_zero, List.take_succ_cons, List.take_zero, List.drop_succ_cons] at g7
  obtain ⟨a8, e8, _, wf8⟩ := DataW.trod_int Try.underlying22 g7
  have g8 : DataW.trod enc Try.prog W base spare held m 22 (([c1, c2, c3, c4, c5, c6, c7, c8, c9].drop 8).take (Try.prog.cellsOf 22)) = xs[8]? := hf 8 _ rfl
  rw [List.getElem?_eq_getElem (by rw [hlen]; exact (by decide : 8 < 9)), cells22] at g8
  simp only [List.drop_zero, List.take_succ_cons, List.take_zero, List.drop_succ_cons] at g8
  obtain ⟨a9, e9, _, wf9⟩ := DataW.trod_int Try.underlying22 g8

  simp at e1 e2 e3 e4 e5 e6 e7 e8 e9
  exact ⟨a1, a2, a3, a4, a5, a6, a7, a8, a9, e1, e2, e3, e4, e5, e6, e7, e8, e9, wf1, wf2, wf3, wf4, wf5, wf6, wf7, wf8, wf9⟩
theorem open_inp {v : Value} {d : DataW H} {p : List MemPlace} (hv : Value.okWide Try.prog W r b0 27 v) (h : DataW.Trod enc Try.prog W base spare held 27 v d p) :
    ∃ x : Inp, v = .agg x.v ∧ x.Ok ∧ x.Rg := by
  obtain ⟨cs, rfl, hsz⟩ := okWide_struct Try.underlying27 hv
  rw [cells27] at hsz
  obtain ⟨fuel, hf⟩ := h
  obtain ⟨y0, y1, y2, n, hx, _, h0, h1, h2⟩ := Deep.trod_struct3 Try.underlying27 hf
  obtain ⟨l⟩ := cs
  match l, hsz with
  | [c0, c1, c2, c3, c4, c5, c6, c7, c8, c9, c10], _ =>
    simp only [Value.cells, cells3, cells25, List.drop_zero, List.take_succ_cons, List.take_zero, List.drop_succ_cons] at h0 h1 h2
    obtain ⟨a0, e0, _, w0⟩ := DataW.trod_int Try.underlying3 h0
    obtain ⟨a10, e10, _, w10⟩ := DataW.trod_int Try.underlying3 h2
    obtain ⟨a1, a2, a3, a4, a5, a6, a7, a8, a9, e1, e2, e3, e4, e5, e6, e7, e8, e9, w1, w2, w3, w4, w5, w6, w7, w8, w9⟩ := open_cmd h1
    simp at e0 e10
    subst e0 e1 e2 e3 e4 e5 e6 e7 e8 e9 e10
    have b2 := bounds_u64 w2
    have b3 := bounds_u64 w3
    have b4 := bounds_u32 w4
    have b5 := bounds_i64 w5
    have b6 := bounds_i64 w6
    have b7 := bounds_i64 w7
    have b8 := bounds_u64 w8
    have b9 := bounds_u64 w9
    have b10 := bounds_i64 w10
    exact ⟨⟨a0, a1, a2, a3, a4, a5, a6, a7, a8, a9, a10⟩, rfl, ⟨⟨b2.1, by simp; omega⟩, ⟨b3.1, by simp; omega⟩, ⟨b4.1, by simp; omega⟩, ⟨b8.1, by simp; omega⟩, ⟨b9.1, by simp; omega⟩⟩, ⟨⟨b5.1, by simp; omega⟩, ⟨b6.1, by simp; omega⟩, ⟨b7.1, by simp; omega⟩, ⟨b10.1, by simp; omega⟩⟩⟩
end
end Go.Proofs.Ytnhipamajelalaa
