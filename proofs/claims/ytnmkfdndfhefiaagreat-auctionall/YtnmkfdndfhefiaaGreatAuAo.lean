/-
  What came in: operations.
-/
import Derived.Test.YtnmkfdndfhefiaaGreatAuAz
import Derived.Test.YtnmkfdndfhefiaaGreatPhA
namespace Go.Proofs.YtnmkfdndfhefiaaGreat
open Go.ChangeShapes Go.WideShapes Go.ChangeAt Go.RowKit Go.Joins Go.Deep
set_option linter.unusedVariables false
theorem cellsO : Tryz.prog.cellsOf 37 = 10 := by kernel_rfl
theorem cells4 : Tryz.prog.cellsOf 4 = 1 := by kernel_rfl
section
variable {H : Type} {enc : TypeId × Value → H} {W : World} {base b0 : Nat} {spare : Nat → Bool} {held : Bool} {r : Reach}
set_option maxRecDepth 100000 in
theorem open_op {n : Nat} {cs : List Value} {y : DataW H × List MemPlace} (hl : cs.length = 10) (h : DataW.trod enc Tryz.prog W base spare held n 37 cs = some y) :
    ∃ o : OpV, cs = (orow o).toList := by
  match cs, hl with
  | [c0, c1, c2, c3, c4, c5, c6, c7, c8, c9], _ =>
    obtain ⟨xs, m, _, _, _, hlen, hf⟩ := DataW.trod_struct Tryz.underlying37 h
    have g0 : DataW.trod enc Tryz.prog W base spare held m 3 (([c0, c1, c2, c3, c4, c5, c6, c7, c8, c9].drop 0).take (Tryz.prog.cellsOf 3)) = xs[0]? := hf 0 _ rfl
    rw [List.getElem?_eq_getElem (by rw [hlen]; exact (by decide : 0 < 5)), cells3] at g0
    have g1 : DataW.trod enc Tryz.prog W base spare held m 4 (([c0, c1, c2, c3, c4, c5, c6, c7, c8, c9].drop 1).take (Tryz.prog.cellsOf 4)) = xs[1]? := hf 1 _ rfl
    rw [List.getElem?_eq_getElem (by rw [hlen]; exact (by decide : 1 < 5)), cells4] at g1
    have g2 : DataW.trod enc Tryz.prog W base spare held m 35 (([c0, c1, c2, c3, c4, c5, c6, c7, c8, c9].drop 2).take (Tryz.prog.cellsOf 35)) = xs[2]? := hf 2 _ rfl
    rw [List.getElem?_eq_getElem (by rw [hlen]; exact (by decide : 2 < 5)), cellsI] at g2
    have g3 : DataW.trod enc Tryz.prog W base spare held m 32 (([c0, c1, c2, c3, c4, c5, c6, c7, c8, c9].drop 8).take (Tryz.prog.cellsOf 32)) = xs[3]? := hf 3 _ rfl
    rw [List.getElem?_eq_getElem (by rw [hlen]; exact (by decide : 3 < 5)), cellsU] at g3
    have g4 : DataW.trod enc Tryz.prog W base spare held m 3 (([c0, c1, c2, c3, c4, c5, c6, c7, c8, c9].drop 9).take (Tryz.prog.cellsOf 3)) = xs[4]? := hf 4 _ rfl
    rw [List.getElem?_eq_getElem (by rw [hlen]; exact (by decide : 4 < 5)), cells3] at g4
    simp only [List.drop_zero, List.take_succ_cons, List.take_zero, List.drop_succ_cons] at g0 g1 g2 g3 g4
    obtain ⟨a0, e0, _, w0⟩ := DataW.trod_int Tryz.underlying3 g0
    obtain ⟨a1, e1, _⟩ := DataW.trod_bool Tryz.underlying4 g1
    obtain ⟨x, e2⟩ := open_it (by rfl) g2
    obtain ⟨a3, e3, _, w3⟩ := DataW.trod_int Tryz.underlying32 g3
    obtain ⟨a4, e4, _, w4⟩ := DataW.trod_int Tryz.underlying3 g4
    simp only [irow] at e2
    simp at e0 e1 e2 e3 e4
    obtain ⟨x0, x1, x2, x3, x4, x5⟩ := e2
    subst e0 e1 x0 x1 x2 x3 x4 x5 e3 e4
    exact ⟨⟨a0, a1, x, a3, a4⟩, rfl⟩
set_option maxRecDepth 100000 in
theorem open_ops {v : Value} {d : DataW H} {p : List MemPlace} (hv : Value.okWide Tryz.prog W r b0 22 v) (h : DataW.Trod enc Tryz.prog W base (fun _ => true) held 22 v d p) :
    ∃ q cap l, v = .slice q (l : List OpV).length cap ∧ Oz W q l ∧ l.length ≤ maxLen := by
  obtain ⟨a0, len0, cap0, rfl⟩ := okWide_slice (P := Tryz.prog) Tryz.underlying22 hv
  obtain ⟨fuel, hf⟩ := h
  rcases open_slice Tryz.underlying22 hf with ⟨hcs, _⟩ | ⟨a, len, cap, m, n, D, Pl, hcs, _, hl, hm, hmm, hx, hr⟩
  · simp [Value.cells] at hcs
    obtain ⟨rfl, rfl, rfl⟩ := hcs
    exact ⟨none, 0, [], rfl, fun i hi => by simp at hi, by simp⟩
  · simp [Value.cells] at hcs
    obtain ⟨rfl, rfl, rfl⟩ := hcs
    simp only [if_true] at hmm
    subst hmm
    rw [cellsO] at hr
    haveI : Inhabited OpV := ⟨⟨0, false, ⟨0, 0, 0, 0, 0, 0⟩, 0, 0⟩⟩
    obtain ⟨Z, hZ⟩ := choose_lt (α := OpV) (p := fun i z => W.cells? base (a.add (i * 10)) 10 = some (orow z).toList) (n := m) (fun i hi => by
      obtain ⟨cs', h1, h2⟩ := hr i hi
      obtain ⟨z, rfl⟩ := open_op (World.cells?_some h1).2.1 h2
      exact ⟨z, h1⟩)
    refine ⟨some a, m, (List.range len0).map Z, by simp, ?_, by simp; omega⟩
    intro i hi
    have hi' : i < len0 := by simpa using hi
    have hc := hZ i (by omega)
    have hc0 := hZ 0 (by omega)
    obtain ⟨_, _, hcc0⟩ := World.cells?_some hc0
    obtain ⟨_, _, hcc⟩ := World.cells?_some hc
    have e1 : ((List.range len0).map Z)[i] = Z i := by simp
    rw [e1]
    obtain ⟨b, off, spot⟩ := a
    have hspot : spot = none := by
      have := hcc0 0 (by omega)
      simpa [Addr.add] using World.cell?_spot this
    subst hspot
    have g0 := hcc 0 (by omega)
    rw [add_mid, add_mid] at g0
    refine ⟨b, off, rfl, block_lt_of_cell (v := .int .i64 (Z i).k) g0, ?_⟩
    intro j hj
    have g := hcc j hj
    rw [add_mid, add_mid] at g
    rw [g]
end
end Go.Proofs.YtnmkfdndfhefiaaGreat
