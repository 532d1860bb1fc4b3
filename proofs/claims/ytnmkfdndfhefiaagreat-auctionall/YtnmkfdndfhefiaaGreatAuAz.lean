/-
  What came in: interests.
-/
import Derived.Test.YtnmkfdndfhefiaaGreatRows
import Derived.Test.YtnmkfdndfhefiaaGreatPfA
import Derived.ProofKit
import Derived.OpenShut
import Derived.JoinedCond
import Derived.ChangeSlices
import Derived.ChangeOld
import Derived.ChangeArms
import Derived.Below
import Derived.Lib.SmallJoins
namespace Go.Proofs.YtnmkfdndfhefiaaGreat
open Go.ChangeShapes Go.WideShapes Go.ChangeAt Go.RowKit Go.Joins Go.Deep
set_option linter.unusedVariables false
theorem own : ownKnob Tryz.prog.godebug = none := by kernel_rfl
theorem laidOut : laidOutB Tryz.prog = true := by kernel_rfl
theorem add_mid (b o j : Nat) : (⟨b, o, none⟩ : Addr).add j = ⟨b, o + j, none⟩ := by unfold Addr.add; split <;> simp_all
theorem cellsI : Tryz.prog.cellsOf 35 = 6 := by kernel_rfl
theorem cells3 : Tryz.prog.cellsOf 3 = 1 := by kernel_rfl
theorem cellsU : Tryz.prog.cellsOf 32 = 1 := by kernel_rfl
theorem cellsW : Tryz.prog.cellsOf 33 = 1 := by kernel_rfl
section
variable {H : Type} {enc : TypeId × Value → H} {W : World} {base b0 : Nat} {spare : Nat → Bool} {held : Bool} {r : Reach}
set_option maxRecDepth 100000 in
theorem open_it {n : Nat} {cs : List Value} {y : DataW H × List MemPlace} (hl : cs.length = 6) (h : DataW.trod enc Tryz.prog W base spare held n 35 cs = some y) :
    ∃ x : It, cs = (irow x).toList := by
  match cs, hl with
  | [c0, c1, c2, c3, c4, c5], _ =>
    obtain ⟨xs, m, _, _, _, hlen, hf⟩ := DataW.trod_struct Tryz.underlying35 h
    have g0 : DataW.trod enc Tryz.prog W base spare held m 32 (([c0, c1, c2, c3, c4, c5].drop 0).take (Tryz.prog.cellsOf 32)) = xs[0]? := hf 0 _ rfl
    rw [List.getElem?_eq_getElem (by rw [hlen]; exact (by decide : 0 < 6)), cellsU] at g0
    have g1 : DataW.trod enc Tryz.prog W base spare held m 33 (([c0, c1, c2, c3, c4, c5].drop 1).take (Tryz.prog.cellsOf 33)) = xs[1]? := hf 1 _ rfl
    rw [List.getElem?_eq_getElem (by rw [hlen]; exact (by decide : 1 < 6)), cellsW] at g1
    have g2 : DataW.trod enc Tryz.prog W base spare held m 3 (([c0, c1, c2, c3, c4, c5].drop 2).take (Tryz.prog.cellsOf 3)) = xs[2]? := hf 2 _ rfl
    rw [List.getElem?_eq_getElem (by rw [hlen]; exact (by decide : 2 < 6)), cells3] at g2
    have g3 : DataW.trod enc Tryz.prog W base spare held m 3 (([c0, c1, c2, c3, c4, c5].drop 3).take (Tryz.prog.cellsOf 3)) = xs[3]? := hf 3 _ rfl
    rw [List.getElem?_eq_getElem (by rw [hlen]; exact (by decide : 3 < 6)), cells3] at g3
    have g4 : DataW.trod enc Tryz.prog W base spare held m 3 (([c0, c1, c2, c3, c4, c5].drop 4).take (Tryz.prog.cellsOf 3)) = xs[4]? := hf 4 _ rfl
    rw [List.getElem?_eq_getElem (by rw [hlen]; exact (by decide : 4 < 6)), cells3] at g4
    have g5 : DataW.trod enc Tryz.prog W base spare held m 32 (([c0, c1, c2, c3, c4, c5].drop 5).take (Tryz.prog.cellsOf 32)) = xs[5]? := hf 5 _ rfl
    rw [List.getElem?_eq_getElem (by rw [hlen]; exact (by decide : 5 < 6)), cellsU] at g5
    simp only [List.drop_zero, List.take_succ_cons, List.take_zero, List.drop_succ_cons] at g0 g1 g2 g3 g4 g5
    obtain ⟨a0, e0, _, w0⟩ := DataW.trod_int Tryz.underlying32 g0
    obtain ⟨a1, e1, _, w1⟩ := DataW.trod_int Tryz.underlying33 g1
    obtain ⟨a2, e2, _, w2⟩ := DataW.trod_int Tryz.underlying3 g2
    obtain ⟨a3, e3, _, w3⟩ := DataW.trod_int Tryz.underlying3 g3
    obtain ⟨a4, e4, _, w4⟩ := DataW.trod_int Tryz.underlying3 g4
    obtain ⟨a5, e5, _, w5⟩ := DataW.trod_int Tryz.underlying32 g5
    simp at e0 e1 e2 e3 e4 e5
    subst e0 e1 e2 e3 e4 e5
    exact ⟨⟨a0, a1, a2, a3, a4, a5⟩, rfl⟩
set_option maxRecDepth 100000 in
theorem open_its {v : Value} {d : DataW H} {p : List MemPlace} (hv : Value.okWide Tryz.prog W r b0 27 v) (h : DataW.Trod enc Tryz.prog W base (fun _ => true) held 27 v d p) :
    ∃ q cap l, v = .slice q (l : List It).length cap ∧ Iz W q l ∧ l.length ≤ maxLen := by
  obtain ⟨a0, len0, cap0, rfl⟩ := okWide_slice (P := Tryz.prog) Tryz.underlying27 hv
  obtain ⟨fuel, hf⟩ := h
  rcases open_slice Tryz.underlying27 hf with ⟨hcs, _⟩ | ⟨a, len, cap, m, n, D, Pl, hcs, _, hl, hm, hmm, hx, hr⟩
  · simp [Value.cells] at hcs
    obtain ⟨rfl, rfl, rfl⟩ := hcs
    exact ⟨none, 0, [], rfl, fun i hi => by simp at hi, by simp⟩
  · simp [Value.cells] at hcs
    obtain ⟨rfl, rfl, rfl⟩ := hcs
    simp only [if_true] at hmm
    subst hmm
    rw [cellsI] at hr
    haveI : Inhabited It := ⟨⟨0, 0, 0, 0, 0, 0⟩⟩
    obtain ⟨Z, hZ⟩ := choose_lt (α := It) (p := fun i z => W.cells? base (a.add (i * 6)) 6 = some (irow z).toList) (n := m) (fun i hi => by
      obtain ⟨cs', h1, h2⟩ := hr i hi
      obtain ⟨z, rfl⟩ := open_it (World.cells?_some h1).2.1 h2
      exact ⟨z, h1⟩)
    refine ⟨some a, m, (List.range len0).map Z, by simp, ?_, by simp; omega⟩
    intro i hi
    have hi' : i < len0 := by simpa using hi
    have hc := hZ i (by omega)
    have hc0 := hZ 0 (by omega)
    obtain ⟨_, _, hcc0⟩ := World.cells?_some hc0
    obtain ⟨_, _, hcc⟩ := World.cells?_some hc
    have e1 : ((List.range len0).map Z)[i] = Z i := by simp
    rw [e1]
    obtain ⟨b, off, spot⟩ := a
    have hspot : spot = none := by
      have := hcc0 0 (by omega)
      simpa [Addr.add] using World.cell?_spot this
    subst hspot
    have g0 := hcc 0 (by omega)
    rw [add_mid, add_mid] at g0
    refine ⟨b, off, rfl, block_lt_of_cell (v := .int .u64 (Z i).id) g0, ?_⟩
    intro j hj
    have g := hcc j hj
    rw [add_mid, add_mid] at g
    rw [g]
end
end Go.Proofs.YtnmkfdndfhefiaaGreat
