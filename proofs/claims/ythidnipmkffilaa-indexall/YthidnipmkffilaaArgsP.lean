/-
  What came in: ops.
-/
import Derived.Test.YthidnipmkffilaaArgsS
import Derived.Test.YthidnipmkffilaaIyL
namespace Go.Proofs.Ythidnipmkffilaa
open Go.ChangeShapes Go.WideShapes Go.ChangeAt Go.RowKit Go.Joins Go.Deep
set_option linter.unusedVariables false
/-- ops in memory. -/
def Opz (w : World) (q : Option Addr) (l : List OpI) : Prop := ∀ i (h : i < l.length), ∃ b off, q = some ⟨b, off, none⟩ ∧ b < w.heap.size ∧ ∀ j, j < 5 → w.cell? ⟨b, off + i * 5 + j, none⟩ = (oprow l[i])[j]?
theorem cells40 : Try.prog.cellsOf 40 = 5 := by kernel_rfl
section
variable {H : Type} {enc : TypeId × Value → H} {W : World} {base b0 : Nat} {spare : Nat → Bool} {held : Bool} {r : Reach}
set_option maxRecDepth 100000 in
theorem open_op {n : Nat} {cs : List Value} {y : DataW H × List MemPlace} (hl : cs.length = 5) (h : DataW.trod enc Try.prog W base spare held n 40 cs = some y) :
    ∃ x : OpI, cs = (oprow x).toList ∧ 0 ≤ x.ky ∧ x.ky ≤ 18446744073709551615 := by
  match cs, hl with
  | [c0, c1, c2, c3, c4], _ =>
    obtain ⟨xs, m, _, _, _, hlen, hf⟩ := DataW.trod_struct Try.underlying40 h
    have g0 : DataW.trod enc Try.prog W base spare held m 3 (([c0, c1, c2, c3, c4].drop 0).take (Try.prog.cellsOf 3)) = xs[0]? := hf 0 _ rfl
    rw [List.getElem?_eq_getElem (by rw [hlen]; exact (by decide : 0 < 5)), cells3] at g0
    have g1 : DataW.trod enc Try.prog W base spare held m 4 (([c0, c1, c2, c3, c4].drop 1).take (Try.prog.cellsOf 4)) = xs[1]? := hf 1 _ rfl
    rw [List.getElem?_eq_getElem (by rw [hlen]; exact (by decide : 1 < 5)), cells4] at g1
    have g2 : DataW.trod enc Try.prog W base spare held m 35 (([c0, c1, c2, c3, c4].drop 2).take (Try.prog.cellsOf 35)) = xs[2]? := hf 2 _ rfl
    rw [List.getElem?_eq_getElem (by rw [hlen]; exact (by decide : 2 < 5)), cells35] at g2
    have g3 : DataW.trod enc Try.prog W base spare held m 3 (([c0, c1, c2, c3, c4].drop 3).take (Try.prog.cellsOf 3)) = xs[3]? := hf 3 _ rfl
    rw [List.getElem?_eq_getElem (by rw [hlen]; exact (by decide : 3 < 5)), cells3] at g3
    have g4 : DataW.trod enc Try.prog W base spare held m 3 (([c0, c1, c2, c3, c4].drop 4).take (Try.prog.cellsOf 3)) = xs[4]? := hf 4 _ rfl
    rw [List.getElem?_eq_getElem (by rw [hlen]; exact (by decide : 4 < 5)), cells3] at g4
    simp only [List.drop_zero, List.take_succ_cons, List.take_zero, List.drop_succ_cons] at g0 g1 g2 g3 g4
    obtain ⟨a0, e0, _, w0⟩ := DataW.trod_int Try.underlying3 g0
    obtain ⟨a1, e1, _⟩ := DataW.trod_bool Try.underlying4 g1
    obtain ⟨a2, e2, _, w2⟩ := DataW.trod_int Try.underlying35 g2
    obtain ⟨a3, e3, _, w3⟩ := DataW.trod_int Try.underlying3 g3
    obtain ⟨a4, e4, _, w4⟩ := DataW.trod_int Try.underlying3 g4
    simp at e0 e1 e2 e3 e4
    subst e0 e1 e2 e3 e4
    have hb1 := bounds_u64 w2
    exact ⟨⟨a0, a1, a2, a3, a4⟩, rfl, hb1⟩
set_option maxRecDepth 100000 in
theorem open_ops {v : Value} {d : DataW H} {p : List MemPlace} (hv : Value.okWide Try.prog W r b0 38 v) (h : DataW.Trod enc Try.prog W base (fun _ => true) held 38 v d p) :
    ∃ q cap l, v = .slice q (l : List OpI).length cap ∧ Opz W q l ∧ (l = [] ∨ ∃ elems rest, d = .slice elems rest ∧ l.length ≤ elems.length) ∧ (∀ x ∈ l, 0 ≤ x.ky ∧ x.ky ≤ 18446744073709551615) ∧ l.length ≤ maxLen := by
  obtain ⟨a0, len0, cap0, rfl⟩ := okWide_slice (P := Try.prog) Try.underlying38 hv
  obtain ⟨fuel, hf⟩ := h
  rcases open_slice Try.underlying38 hf with ⟨hcs, _⟩ | ⟨a, len, cap, m, n, D, Pl, hcs, _, hl, hm, hmm, hx, hr⟩
  · simp [Value.cells] at hcs
    obtain ⟨rfl, rfl, rfl⟩ := hcs
    exact ⟨none, 0, [], rfl, fun i hi => by simp at hi, Or.inl rfl, by simp, by simp⟩
  · simp [Value.cells] at hcs
    obtain ⟨rfl, rfl, rfl⟩ := hcs
    simp only [if_true] at hmm
    subst hmm
    rw [cells40] at hr
    haveI : Inhabited OpI := ⟨⟨0, false, 0, 0, 0⟩⟩
    obtain ⟨Z, hZ⟩ := choose_lt (α := OpI) (p := fun i z => W.cells? base (a.add (i * 5)) 5 = some (oprow z).toList ∧ 0 ≤ z.ky ∧ z.ky ≤ 18446744073709551615) (n := m) (fun i hi => by
      obtain ⟨cs', h1, h2⟩ := hr i hi
      obtain ⟨z, rfl, h3⟩ := open_op (World.cells?_some h1).2.1 h2
      exact ⟨z, h1, h3⟩)
    refine ⟨some a, m, (List.range len0).map Z, by simp, ?_, Or.inr ⟨_, _, congrArg Prod.fst hx, by simp⟩, ?_, by simp; omega⟩
    · intro i hi
      have hi' : i < len0 := by simpa using hi
      obtain ⟨hc, _⟩ := hZ i (by omega)
      obtain ⟨hc0, _⟩ := hZ 0 (by omega)
      obtain ⟨_, _, hcc0⟩ := World.cells?_some hc0
      obtain ⟨_, _, hcc⟩ := World.cells?_some hc
      have e1 : ((List.range len0).map Z)[i] = Z i := by simp
      rw [e1]
      obtain ⟨b, off, spot⟩ := a
      have hspot : spot = none := by
        have := hcc0 0 (by omega)
        simpa [Addr.add] using World.cell?_spot this
      subst hspot
      have g0 := hcc 0 (by omega)
      rw [add_mid, add_mid] at g0
      refine ⟨b, off, rfl, block_lt_of_cell (v := .int .i64 (Z i).kd) g0, ?_⟩
      intro j hj
      have g := hcc j hj
      rw [add_mid, add_mid] at g
      rw [g]
      simp
    · intro x hx'
      obtain ⟨i, hi, rfl⟩ := List.mem_map.1 hx'
      exact (hZ i (by have := List.mem_range.1 hi; omega)).2
end
theorem Opz.on {w w' : World} {q : Option Addr} {l : List OpI} (h : Opz w q l) (hb : Below w.heap.size w w') : Opz w' q l := by
  intro i hi
  obtain ⟨b, off, e, hl, hc⟩ := h i hi
  refine ⟨b, off, e, Nat.lt_of_lt_of_le hl hb.size, ?_⟩
  intro j hj
  rw [← hc j hj]
  unfold World.cell?
  simp only [hb.block b hl]
theorem Opz.cells {w : World} {q : Option Addr} {l : List OpI} (h : Opz w q l) {i : Nat} (hi : i < l.length) : ∃ b off, q = some ⟨b, off, none⟩ ∧ b < w.heap.size ∧ w.cell? ⟨b, off + i * 5, none⟩ = some (.int .i64 l[i].kd) ∧ w.cell? ⟨b, off + i * 5 + 1, none⟩ = some (.bool l[i].ot) ∧ w.cell? ⟨b, off + i * 5 + 2, none⟩ = some (.int .u64 l[i].ky) ∧ w.cell? ⟨b, off + i * 5 + 3, none⟩ = some (.int .i64 l[i].v) ∧ w.cell? ⟨b, off + i * 5 + 4, none⟩ = some (.int .i64 l[i].nn) := by
  obtain ⟨b, off, e, hl, hc⟩ := h i hi
  exact ⟨b, off, e, hl, hc 0 (by omega), hc 1 (by omega), hc 2 (by omega), hc 3 (by omega), hc 4 (by omega)⟩
end Go.Proofs.Ythidnipmkffilaa
