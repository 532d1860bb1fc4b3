/-
  What came in: a book.
-/
import Derived.Test.YtopfgoifmcjcaaaRows
import Derived.Test.YtopfgoifmcjcaaaSnG
import Derived.ProofKit
import Derived.OpenShut
import Derived.JoinedCond
import Derived.ChangeSlices
import Derived.ChangeOld
import Derived.ChangeArms
import Derived.Below
import Derived.SizedLaws
import Derived.Lib.SmallJoins
namespace Go.Proofs.Ytopfgoifmcjcaaa
open Go.ChangeShapes Go.WideShapes Go.ChangeAt Go.RowKit Go.Joins Go.Deep
set_option linter.unusedVariables false
theorem own : ownKnob Try.prog.godebug = none := by kernel_rfl
theorem laidOut : laidOutB Try.prog = true := by kernel_rfl
theorem add_mid (b o j : Nat) : (⟨b, o, none⟩ : Addr).add j = ⟨b, o + j, none⟩ := by unfold Addr.add; split <;> simp_all
theorem cells33 : Try.prog.cellsOf 33 = 7 := by kernel_rfl
theorem cells27 : Try.prog.cellsOf 27 = 6 := by kernel_rfl
theorem cells24 : Try.prog.cellsOf 24 = 1 := by kernel_rfl
theorem cells23 : Try.prog.cellsOf 23 = 2 := by kernel_rfl
theorem cells3 : Try.prog.cellsOf 3 = 1 := by kernel_rfl
theorem cells25 : Try.prog.cellsOf 25 = 1 := by kernel_rfl
theorem cells31 : Try.prog.cellsOf 31 = 1 := by kernel_rfl
theorem bytes33 : Try.prog.bytesOf 33 = 56 := by kernel_rfl
section
variable {H : Type} {enc : TypeId × Value → H} {W : World} {base b0 : Nat} {spare : Nat → Bool} {held : Bool} {r : Reach}
set_option maxRecDepth 100000 in
theorem open_or {n : Nat} {cs : List Value} {y : DataW H × List MemPlace} (hl : cs.length = 7) (h : DataW.trod enc Try.prog W base spare held n 33 cs = some y) : ∃ x : Or, cs = (orow x).toList := by
  match cs, hl with
  | [c0, c1, c2, c3, c4, c5, c6], _ =>
    obtain ⟨xs, m, _, _, _, hlen, hf⟩ := DataW.trod_struct Try.underlying33 h
    have g0 : DataW.trod enc Try.prog W base spare held m 25 (([c0, c1, c2, c3, c4, c5, c6].drop 0).take (Try.prog.cellsOf 25)) = xs[0]? := hf 0 _ rfl
    rw [List.getElem?_eq_getElem (by rw [hlen]; exact (by decide : 0 < 7)), cells25] at g0
    have g1 : DataW.trod enc Try.prog W base spare held m 31 (([c0, c1, c2, c3, c4, c5, c6].drop 1).take (Try.prog.cellsOf 31)) = xs[1]? := hf 1 _ rfl
    rw [List.getElem?_eq_getElem (by rw [hlen]; exact (by decide : 1 < 7)), cells31] at g1
    have g2 : DataW.trod enc Try.prog W base spare held m 3 (([c0, c1, c2, c3, c4, c5, c6].drop 2).take (Try.prog.cellsOf 3)) = xs[2]? := hf 2 _ rfl
    rw [List.getElem?_eq_getElem (by rw [hlen]; exact (by decide : 2 < 7)), cells3] at g2
    have g3 : DataW.trod enc Try.prog W base spare held m 3 (([c0, c1, c2, c3, c4, c5, c6].drop 3).take (Try.prog.cellsOf 3)) = xs[3]? := hf 3 _ rfl
    rw [List.getElem?_eq_getElem (by rw [hlen]; exact (by decide : 3 < 7)), cells3] at g3
    have g4 : DataW.trod enc Try.prog W base spare held m 25 (([c0, c1, c2, c3, c4, c5, c6].drop 4).take (Try.prog.cellsOf 25)) = xs[4]? := hf 4 _ rfl
    rw [List.getElem?_eq_getElem (by rw [hlen]; exact (by decide : 4 < 7)), cells25] at g4
    have g5 : DataW.trod enc Try.prog W base spare held m 25 (([c0, c1, c2, c3, c4, c5, c6].drop 5).take (Try.prog.cellsOf 25)) = xs[5]? := hf 5 _ rfl
    rw [List.getElem?_eq_getElem (by rw [hlen]; exact (by decide : 5 < 7)), cells25] at g5
    have g6 : DataW.trod enc Try.prog W base spare held m 25 (([c0, c1, c2, c3, c4, c5, c6].drop 6).take (Try.prog.cellsOf 25)) = xs[6]? := hf 6 _ rfl
    rw [List.getElem?_eq_getElem (by rw [hlen]; exact (by decide : 6 < 7)), cells25] at g6
    simp only [List.drop_zero, List.take_succ_cons, List.take_zero, List.drop_succ_cons] at g0 g1 g2 g3 g4 g5 g6
    obtain ⟨a0, e0, _, w0⟩ := DataW.trod_int Try.underlying25 g0
    obtain ⟨a1, e1, _, w1⟩ := DataW.trod_int Try.underlying31 g1
    obtain ⟨a2, e2, _, w2⟩ := DataW.trod_int Try.underlying3 g2
    obtain ⟨a3, e3, _, w3⟩ := DataW.trod_int Try.underlying3 g3
    obtain ⟨a4, e4, _, w4⟩ := DataW.trod_int Try.underlying25 g4
    obtain ⟨a5, e5, _, w5⟩ := DataW.trod_int Try.underlying25 g5
    obtain ⟨a6, e6, _, w6⟩ := DataW.trod_int Try.underlying25 g6
    simp at e0 e1 e2 e3 e4 e5 e6
    subst e0 e1 e2 e3 e4 e5 e6
    exact ⟨⟨a0, a1, a2, a3, a4, a5, a6⟩, rfl⟩
set_option maxRecDepth 100000 in
theorem open_ors {n : Nat} {v : Value} {x : DataW H × List MemPlace} (h : DataW.trod enc Try.prog W base (fun _ => true) held n 24 [v] = some x) (hw : ∀ m ∈ x.1.weights Try.prog 24, m ≤ reachBytes) :
    ∃ q cap os, v = .slice q (os : List Or).length cap ∧ Sl W q cap os := by
  rcases open_slice Try.underlying24 h with ⟨hcs, _⟩ | ⟨a, len, cap, m, n, D, Pl, hcs, _, hl, hm, hmm, hx, hr⟩
  · simp at hcs
    subst hcs
    exact ⟨none, 0, [], rfl, sl_none _⟩
  · simp at hcs
    subst hcs
    simp only [if_true] at hmm
    subst hmm
    rw [cells33] at hr
    haveI : Inhabited Or := ⟨⟨0, 0, 0, 0, 0, 0, 0⟩⟩
    obtain ⟨Z, hZ⟩ := choose_lt (α := Or) (p := fun i z => W.cells? base (a.add (i * 7)) 7 = some (orow z).toList) (n := m) (fun i hi => by
      obtain ⟨cs', h1, h2⟩ := hr i hi
      obtain ⟨z, rfl⟩ := open_or (World.cells?_some h1).2.1 h2
      exact ⟨z, h1⟩)
    have hb : len * 56 ≤ 140737488355328 := by
      have := hw ((((List.range len).map D).length + ((List.range (m - len)).map fun j => D (len + j)).length) * Try.prog.bytesOf 33) (by
        rw [hx]
        simp [DataW.weights, Try.underlying24])
      rw [bytes33] at this
      unfold reachBytes at this
      simp only [List.length_map, List.length_range] at this
      omega
    refine ⟨some a, m, (List.range len).map Z, by simp, ⟨?_, fun e => (by cases e), by simpa using hl, by unfold maxLen at hm; omega, by simpa using hb⟩⟩
    intro i hi
    have hi' : i < len := by simpa using hi
    have hc := hZ i (by omega)
    have hc0 := hZ 0 (by omega)
    obtain ⟨_, _, hcc0⟩ := World.cells?_some hc0
    obtain ⟨_, _, hcc⟩ := World.cells?_some hc
    have e1 : ((List.range len).map Z)[i] = Z i := by simp
    rw [e1]
    obtain ⟨b, off, spot⟩ := a
    have hspot : spot = none := by
      have := hcc0 0 (by omega)
      simpa [Addr.add] using World.cell?_spot this
    subst hspot
    have g0 := hcc 0 (by omega)
    rw [add_mid, add_mid] at g0
    refine ⟨b, off, rfl, block_lt_of_cell (v := .int .u64 (Z i).id) g0, ?_⟩
    intro j hj
    have g := hcc j hj
    rw [add_mid, add_mid] at g
    rw [g]
set_option maxRecDepth 100000 in
theorem open_book {v : Value} {d : DataW H} {p : List MemPlace} (hv : Value.okWide Try.prog W r b0 27 v) (h : DataW.Trod enc Try.prog W base (fun _ => true) held 27 v d p) (hw : ∀ m ∈ d.weights Try.prog 27, m ≤ reachBytes) :
    ∃ (k m : Int) (x1 : Option Addr) (c1 : Nat) (os1 : List Or) (x2 : Option Addr) (c2 : Nat) (os2 : List Or) (hh s : Int), v = .agg #[.int .i64 k, .int .i64 m, .slice x1 os1.length c1, .slice x2 os2.length c2, .int .u64 hh, .int .u64 s] ∧ Sl W x1 c1 os1 ∧ Sl W x2 c2 os2 := by
  obtain ⟨cs, rfl, hsz⟩ := okWide_struct Try.underlying27 hv
  rw [cells27] at hsz
  obtain ⟨fuel, hf0⟩ := h
  obtain ⟨l⟩ := cs
  match l, hsz with
  | [c0, c1, c2, c3, c4, c5], _ =>
    have hf1 : DataW.trod enc Try.prog W base (fun _ => true) held fuel 27 [c0, c1, c2, c3, c4, c5] = some (d, p) := hf0
    obtain ⟨xs, m, _, hx, _, hlen, hf⟩ := DataW.trod_struct Try.underlying27 hf1
    have hd := congrArg Prod.fst hx
    simp only at hd
    have g0 : DataW.trod enc Try.prog W base (fun _ => true) held m 23 (([c0, c1, c2, c3, c4, c5].drop 0).take (Try.prog.cellsOf 23)) = xs[0]? := hf 0 _ rfl
    rw [List.getElem?_eq_getElem (by rw [hlen]; exact (by decide : 0 < 5)), cells23] at g0
    have g1 : DataW.trod enc Try.prog W base (fun _ => true) held m 24 (([c0, c1, c2, c3, c4, c5].drop 2).take (Try.prog.cellsOf 24)) = xs[1]? := hf 1 _ rfl
    rw [List.getElem?_eq_getElem (by rw [hlen]; exact (by decide : 1 < 5)), cells24] at g1
    have g2 : DataW.trod enc Try.prog W base (fun _ => true) held m 24 (([c0, c1, c2, c3, c4, c5].drop 3).take (Try.prog.cellsOf 24)) = xs[2]? := hf 2 _ rfl
    rw [List.getElem?_eq_getElem (by rw [hlen]; exact (by decide : 2 < 5)), cells24] at g2
    have g3 : DataW.trod enc Try.prog W base (fun _ => true) held m 25 (([c0, c1, c2, c3, c4, c5].drop 4).take (Try.prog.cellsOf 25)) = xs[3]? := hf 3 _ rfl
    rw [List.getElem?_eq_getElem (by rw [hlen]; exact (by decide : 3 < 5)), cells25] at g3
    have g4 : DataW.trod enc Try.prog W base (fun _ => true) held m 25 (([c0, c1, c2, c3, c4, c5].drop 5).take (Try.prog.cellsOf 25)) = xs[4]? := hf 4 _ rfl
    rw [List.getElem?_eq_getElem (by rw [hlen]; exact (by decide : 4 < 5)), cells25] at g4
    simp only [List.drop_zero, List.take_succ_cons, List.take_zero, List.drop_succ_cons] at g0 g1 g2 g3 g4
    have hxs : ∃ y0 y1 y2 y3 y4, xs = [y0, y1, y2, y3, y4] := by
      have : xs.length = 5 := hlen
      match xs, this with
      | [y0, y1, y2, y3, y4], _ => exact ⟨y0, y1, y2, y3, y4, rfl⟩
    obtain ⟨y0, y1, y2, y3, y4, rfl⟩ := hxs
    simp only [List.getElem_cons_zero, List.getElem_cons_succ] at g0 g1 g2 g3 g4
    obtain ⟨z0, z1, n', hz, _, k0, k1⟩ := trod_struct2 Try.underlying23 g0
    simp only [cells3, List.drop_zero, List.take_succ_cons, List.take_zero, List.drop_succ_cons] at k0 k1
    obtain ⟨a0, e0, _, _⟩ := DataW.trod_int Try.underlying3 k0
    obtain ⟨a1, e1, _, _⟩ := DataW.trod_int Try.underlying3 k1
    obtain ⟨a3, e3, _, _⟩ := DataW.trod_int Try.underlying25 g3
    obtain ⟨a4, e4, _, _⟩ := DataW.trod_int Try.underlying25 g4
    simp at e0 e1 e3 e4
    obtain ⟨q1, p1, os1, f1, s1⟩ := open_ors g1 (fun m hm => hw m (by
      rw [hd]
      simp only [DataW.weights, Try.underlying27, DataW.weightsEach, List.map_cons, List.map_nil, List.mem_append]
      exact Or.inr (Or.inl hm)))
    obtain ⟨q2, p2, os2, f2, s2⟩ := open_ors g2 (fun m hm => hw m (by
      rw [hd]
      simp only [DataW.weights, Try.underlying27, DataW.weightsEach, List.map_cons, List.map_nil, List.mem_append]
      exact Or.inr (Or.inr (Or.inl hm))))
    subst e0 e1 e3 e4 f1 f2
    exact ⟨a0, a1, q1, p1, os1, q2, p2, os2, a3, a4, rfl, s1, s2⟩
end
end Go.Proofs.Ytopfgoifmcjcaaa
