/-
  What came in: a book; the table of the check sum.
-/
import Derived.Test.YtjpkodllemoniaaDoorRows
import Derived.Test.YtjpkodllemoniaaDoorWiH
import Derived.Test.YtjpkodllemoniaaDoorTie
import Derived.Test.YtjpkodllemoniaaDoorCards
import Derived.Deep.DeepHandedRow
import Derived.Lib.LaidTab
import Derived.ProofKit
import Derived.OpenShut
import Derived.JoinedCond
import Derived.ChangeSlices
import Derived.ChangeOld
import Derived.ChangeArms
import Derived.Below
import Derived.SizedLaws
import Derived.Lib.SmallJoins
namespace Go.Proofs.YtjpkodllemoniaaDoor.Cp
open Go.ChangeShapes Go.WideShapes Go.ChangeAt Go.RowKit Go.Joins Go.Deep
set_option linter.unusedVariables false
theorem own : ownKnob Tryd.prog.godebug = none := by kernel_rfl
theorem laidOut : laidOutB Tryd.prog = true := by kernel_rfl
theorem add_mid (b o j : Nat) : (⟨b, o, none⟩ : Addr).add j = ⟨b, o + j, none⟩ := by unfold Addr.add; split <;> simp_all
theorem cellsX33 : Tryd.prog.cellsOf 46 = 7 := by kernel_rfl
theorem cellsX27 : Tryd.prog.cellsOf 27 = 6 := by kernel_rfl
theorem cellsX24 : Tryd.prog.cellsOf 24 = 1 := by kernel_rfl
theorem cellsX23 : Tryd.prog.cellsOf 23 = 2 := by kernel_rfl
theorem cells3 : Tryd.prog.cellsOf 3 = 1 := by kernel_rfl
theorem cellsX25 : Tryd.prog.cellsOf 25 = 1 := by kernel_rfl
theorem cellsX31 : Tryd.prog.cellsOf 44 = 1 := by kernel_rfl
theorem bytesX33 : Tryd.prog.bytesOf 46 = 56 := by kernel_rfl
theorem sl_none (w : World) : Sl w none 0 [] := ⟨fun i hi => by simp at hi, fun _ => ⟨rfl, rfl⟩, by simp, by omega, by simp⟩
theorem bounds_u32 {x : Int} (h : (Lit.int .u32 x).wf = true) : 0 ≤ x ∧ x < 4294967296 := by
  simp [Lit.wf, IntKind.min, IntKind.max, IntKind.signed, IntKind.bits] at h
  omega
theorem bounds_i64' {x : Int} (h : (Lit.int .i64 x).wf = true) : -9223372036854775808 ≤ x ∧ x < 9223372036854775808 := by have := bounds_i64 h; omega
section
variable {H : Type} {enc : TypeId × Value → H} {W : World} {base b0 : Nat} {spare : Nat → Bool} {held : Bool} {r : Reach}
set_option maxRecDepth 100000 in
theorem open_or {n : Nat} {cs : List Value} {y : DataW H × List MemPlace} (hl : cs.length = 7) (h : DataW.trod enc Tryd.prog W base spare held n 46 cs = some y) : ∃ x : Or, cs = (orow x).toList ∧ Sr.RtW x ∧ Wi.MbW x := by
  match cs, hl with
  | [c0, c1, c2, c3, c4, c5, c6], _ =>
    obtain ⟨xs, m, _, _, _, hlen, hf⟩ := DataW.trod_struct Tryd.underlying46 h
    have g0 : DataW.trod enc Tryd.prog W base spare held m 25 (([c0, c1, c2, c3, c4, c5, c6].drop 0).take (Tryd.prog.cellsOf 25)) = xs[0]? := hf 0 _ rfl
    rw [List.getElem?_eq_getElem (by rw [hlen]; exact (by decide : 0 < 7)), cellsX25] at g0
    have g1 : DataW.trod enc Tryd.prog W base spare held m 44 (([c0, c1, c2, c3, c4, c5, c6].drop 1).take (Tryd.prog.cellsOf 44)) = xs[1]? := hf 1 _ rfl
    rw [List.getElem?_eq_getElem (by rw [hlen]; exact (by decide : 1 < 7)), cellsX31] at g1
    have g2 : DataW.trod enc Tryd.prog W base spare held m 3 (([c0, c1, c2, c3, c4, c5, c6].drop 2).take (Tryd.prog.cellsOf 3)) = xs[2]? := hf 2 _ rfl
    rw [List.getElem?_eq_getElem (by rw [hlen]; exact (by decide : 2 < 7)), cells3] at g2
    have g3 : DataW.trod enc Tryd.prog W base spare held m 3 (([c0, c1, c2, c3, c4, c5, c6].drop 3).take (Tryd.prog.cellsOf 3)) = xs[3]? := hf 3 _ rfl
    rw [List.getElem?_eq_getElem (by rw [hlen]; exact (by decide : 3 < 7)), cells3] at g3
    have g4 : DataW.trod enc Tryd.prog W base spare held m 25 (([c0, c1, c2, c3, c4, c5, c6].drop 4).take (Tryd.prog.cellsOf 25)) = xs[4]? := hf 4 _ rfl
    rw [List.getElem?_eq_getElem (by rw [hlen]; exact (by decide : 4 < 7)), cellsX25] at g4
    have g5 : DataW.trod enc Tryd.prog W base spare held m 25 (([c0, c1, c2, c3, c4, c5, c6].drop 5).take (Tryd.prog.cellsOf 25)) = xs[5]? := hf 5 _ rfl
    rw [List.getElem?_eq_getElem (by rw [hlen]; exact (by decide : 5 < 7)), cellsX25] at g5
    have g6 : DataW.trod enc Tryd.prog W base spare held m 25 (([c0, c1, c2, c3, c4, c5, c6].drop 6).take (Tryd.prog.cellsOf 25)) = xs[6]? := hf 6 _ rfl
    rw [List.getElem?_eq_getElem (by rw [hlen]; exact (by decide : 6 < 7)), cellsX25] at g6
    simp only [List.drop_zero, List.take_succ_cons, List.take_zero, List.drop_succ_cons] at g0 g1 g2 g3 g4 g5 g6
    obtain ⟨a0, e0, _, w0⟩ := DataW.trod_int Tryd.underlying25 g0
    obtain ⟨a1, e1, _, w1⟩ := DataW.trod_int Tryd.underlying44 g1
    obtain ⟨a2, e2, _, w2⟩ := DataW.trod_int Tryd.underlying3 g2
    obtain ⟨a3, e3, _, w3⟩ := DataW.trod_int Tryd.underlying3 g3
    obtain ⟨a4, e4, _, w4⟩ := DataW.trod_int Tryd.underlying25 g4
    obtain ⟨a5, e5, _, w5⟩ := DataW.trod_int Tryd.underlying25 g5
    obtain ⟨a6, e6, _, w6⟩ := DataW.trod_int Tryd.underlying25 g6
    simp at e0 e1 e2 e3 e4 e5 e6
    subst e0 e1 e2 e3 e4 e5 e6
    have b0 := bounds_u64 w0
    have b1 := bounds_u32 w1
    have b4 := bounds_u64 w4
    have b5 := bounds_u64 w5
    have b6 := bounds_u64 w6
    refine ⟨⟨a0, a1, a2, a3, a4, a5, a6⟩, rfl, ?_, b1⟩
    constructor <;> dsimp only <;> omega
set_option maxRecDepth 100000 in
theorem open_ors {n : Nat} {v : Value} {x : DataW H × List MemPlace} (h : DataW.trod enc Tryd.prog W base (fun _ => true) held n 24 [v] = some x) (hw : ∀ m ∈ x.1.weights Tryd.prog 24, m ≤ reachBytes) :
    ∃ q cap os, v = .slice q (os : List Or).length cap ∧ Sl W q cap os ∧ ∀ i (hi : i < os.length), (Sr.RtW os[i] ∧ Wi.MbW os[i]) := by
  rcases open_slice Tryd.underlying24 h with ⟨hcs, _⟩ | ⟨a, len, cap, m, n, D, Pl, hcs, _, hl, hm, hmm, hx, hr⟩
  · simp at hcs
    subst hcs
    exact ⟨none, 0, [], rfl, sl_none _, fun i hi => by cases hi⟩
  · simp at hcs
    subst hcs
    simp only [if_true] at hmm
    subst hmm
    rw [cellsX33] at hr
    haveI : Inhabited Or := ⟨⟨0, 0, 0, 0, 0, 0, 0⟩⟩
    obtain ⟨Z, hZ⟩ := choose_lt (α := Or) (p := fun i z => W.cells? base (a.add (i * 7)) 7 = some (orow z).toList ∧ (Sr.RtW z ∧ Wi.MbW z)) (n := m) (fun i hi => by
      obtain ⟨cs', h1, h2⟩ := hr i hi
      obtain ⟨z, rfl, hz⟩ := open_or (World.cells?_some h1).2.1 h2
      exact ⟨z, h1, hz⟩)
    have hb : len * 56 ≤ 140737488355328 := by
      have := hw ((((List.range len).map D).length + ((List.range (m - len)).map fun j => D (len + j)).length) * Tryd.prog.bytesOf 46) (by
        rw [hx]
        simp [DataW.weights, Tryd.underlying24])
      rw [bytesX33] at this
      unfold reachBytes at this
      simp only [List.length_map, List.length_range] at this
      omega
    refine ⟨some a, m, (List.range len).map Z, by simp, ⟨?_, fun e => (by cases e), by simpa using hl, by unfold maxLen at hm; omega, by simpa using hb⟩, fun i hi => by
      have hi' : i < len := by simpa using hi
      simpa using (hZ i (by omega)).2⟩
    intro i hi
    have hi' : i < len := by simpa using hi
    have hc := (hZ i (by omega)).1
    have hc0 := (hZ 0 (by omega)).1
    obtain ⟨_, _, hcc0⟩ := World.cells?_some hc0
    obtain ⟨_, _, hcc⟩ := World.cells?_some hc
    have e1 : ((List.range len).map Z)[i] = Z i := by simp
    rw [e1]
    obtain ⟨b, off, spot⟩ := a
    have hspot : spot = none := by
      have := hcc0 0 (by omega)
      simpa [Addr.add] using World.cell?_spot this
    subst hspot
    have g0 := hcc 0 (by omega)
    rw [add_mid, add_mid] at g0
    refine ⟨b, off, rfl, block_lt_of_cell (v := .int .u64 (Z i).id) g0, ?_⟩
    intro j hj
    have g := hcc j hj
    rw [add_mid, add_mid] at g
    rw [g]
set_option maxRecDepth 100000 in
theorem open_book {v : Value} {d : DataW H} {p : List MemPlace} (hv : Value.okWide Tryd.prog W r b0 27 v) (h : DataW.Trod enc Tryd.prog W base (fun _ => true) held 27 v d p) (hw : ∀ m ∈ d.weights Tryd.prog 27, m ≤ reachBytes) :
    ∃ (k m : Int) (x1 : Option Addr) (c1 : Nat) (os1 : List Or) (x2 : Option Addr) (c2 : Nat) (os2 : List Or) (hh s : Int), v = .agg #[.int .i64 k, .int .i64 m, .slice x1 os1.length c1, .slice x2 os2.length c2, .int .u64 hh, .int .u64 s] ∧ (Sl W x1 c1 os1 ∧ ∀ i (hi : i < os1.length), Sr.RtW os1[i] ∧ Wi.MbW os1[i]) ∧ (Sl W x2 c2 os2 ∧ ∀ i (hi : i < os2.length), Sr.RtW os2[i] ∧ Wi.MbW os2[i]) ∧ (0 ≤ hh ∧ hh < 18446744073709551616) ∧ (0 ≤ s ∧ s < 18446744073709551616) := by
  obtain ⟨cs, rfl, hsz⟩ := okWide_struct Tryd.underlying27 hv
  rw [cellsX27] at hsz
  obtain ⟨fuel, hf0⟩ := h
  obtain ⟨l⟩ := cs
  match l, hsz with
  | [c0, c1, c2, c3, c4, c5], _ =>
    have hf1 : DataW.trod enc Tryd.prog W base (fun _ => true) held fuel 27 [c0, c1, c2, c3, c4, c5] = some (d, p) := hf0
    obtain ⟨xs, m, _, hx, _, hlen, hf⟩ := DataW.trod_struct Tryd.underlying27 hf1
    have hd := congrArg Prod.fst hx
    simp only at hd
    have g0 : DataW.trod enc Tryd.prog W base (fun _ => true) held m 23 (([c0, c1, c2, c3, c4, c5].drop 0).take (Tryd.prog.cellsOf 23)) = xs[0]? := hf 0 _ rfl
    rw [List.getElem?_eq_getElem (by rw [hlen]; exact (by decide : 0 < 5)), cellsX23] at g0
    have g1 : DataW.trod enc Tryd.prog W base (fun _ => true) held m 24 (([c0, c1, c2, c3, c4, c5].drop 2).take (Tryd.prog.cellsOf 24)) = xs[1]? := hf 1 _ rfl
    rw [List.getElem?_eq_getElem (by rw [hlen]; exact (by decide : 1 < 5)), cellsX24] at g1
    have g2 : DataW.trod enc Tryd.prog W base (fun _ => true) held m 24 (([c0, c1, c2, c3, c4, c5].drop 3).take (Tryd.prog.cellsOf 24)) = xs[2]? := hf 2 _ rfl
    rw [List.getElem?_eq_getElem (by rw [hlen]; exact (by decide : 2 < 5)), cellsX24] at g2
    have g3 : DataW.trod enc Tryd.prog W base (fun _ => true) held m 25 (([c0, c1, c2, c3, c4, c5].drop 4).take (Tryd.prog.cellsOf 25)) = xs[3]? := hf 3 _ rfl
    rw [List.getElem?_eq_getElem (by rw [hlen]; exact (by decide : 3 < 5)), cellsX25] at g3
    have g4 : DataW.trod enc Tryd.prog W base (fun _ => true) held m 25 (([c0, c1, c2, c3, c4, c5].drop 5).take (Tryd.prog.cellsOf 25)) = xs[4]? := hf 4 _ rfl
    rw [List.getElem?_eq_getElem (by rw [hlen]; exact (by decide : 4 < 5)), cellsX25] at g4
    simp only [List.drop_zero, List.take_succ_cons, List.take_zero, List.drop_succ_cons] at g0 g1 g2 g3 g4
    have hxs : ∃ y0 y1 y2 y3 y4, xs = [y0, y1, y2, y3, y4] := by
      have : xs.length = 5 := hlen
      match xs, this with
      | [y0, y1, y2, y3, y4], _ => exact ⟨y0, y1, y2, y3, y4, rfl⟩
    obtain ⟨y0, y1, y2, y3, y4, rfl⟩ := hxs
    simp only [List.getElem_cons_zero, List.getElem_cons_succ] at g0 g1 g2 g3 g4
    obtain ⟨z0, z1, n', hz, _, k0, k1⟩ := trod_struct2 Tryd.underlying23 g0
    simp only [cells3, List.drop_zero, List.take_succ_cons, List.take_zero, List.drop_succ_cons] at k0 k1
    obtain ⟨a0, e0, _, wk0⟩ := DataW.trod_int Tryd.underlying3 k0
    obtain ⟨a1, e1, _, _⟩ := DataW.trod_int Tryd.underlying3 k1
    obtain ⟨a3, e3, _, w3⟩ := DataW.trod_int Tryd.underlying25 g3
    obtain ⟨a4, e4, _, w4⟩ := DataW.trod_int Tryd.underlying25 g4
    simp at e0 e1 e3 e4
    obtain ⟨q1, p1, os1, f1, s1, t1⟩ := open_ors g1 (fun m hm => hw m (by
      rw [hd]
      simp only [DataW.weights, Tryd.underlying27, DataW.weightsEach, List.map_cons, List.map_nil, List.mem_append]
      exact Or.inr (Or.inl hm)))
    obtain ⟨q2, p2, os2, f2, s2, t2⟩ := open_ors g2 (fun m hm => hw m (by
      rw [hd]
      simp only [DataW.weights, Tryd.underlying27, DataW.weightsEach, List.map_cons, List.map_nil, List.mem_append]
      exact Or.inr (Or.inr (Or.inl hm))))
    subst e0 e1 e3 e4 f1 f2
    exact ⟨a0, a1, q1, p1, os1, q2, p2, os2, a3, a4, rfl, ⟨s1, t1⟩, ⟨s2, t2⟩, by have := bounds_u64 w3; omega, by have := bounds_u64 w4; omega⟩
end
theorem gTab : Tryd.prog.globalNamed "bourse/wire.sumSteps" = some 0 := by kernel_rfl
theorem gTabType : (Tryd.prog.globals[0]?).map (·.type) = some 70 := by kernel_rfl
theorem cells70 : Tryd.prog.cellsOf 70 = 16 := by kernel_rfl
theorem laid_of {W : World} (h : laidMetH Tryd.prog [("bourse/wire.sumSteps", Rows.laid_bourse_wire_sumSteps)] W) : Wi.Laid W := by
  have h0 : laidMet Tryd.prog [("bourse/wire.sumSteps", Rows.laid_bourse_wire_sumSteps)] W := h
  have ht : Lib.TabIs Tryd.prog W "bourse/wire.sumSteps" .u32 [0, 498536548, 997073096, 651767980, 1994146192, 1802195444, 1303535960, 1342533948, 3988292384, 4027552580, 3604390888, 3412177804, 2607071920, 2262029012, 2685067896, 3183342108] :=
    Lib.tabIs_of_head (rest := []) gTab gTabType Tryd.underlying70 Tryd.underlying44 cellsX31 cells70 h0
  intro k hk
  have hc := ht.cell gTab k (by simpa using hk)
  rw [hc]
  have : k = 0 ∨ k = 1 ∨ k = 2 ∨ k = 3 ∨ k = 4 ∨ k = 5 ∨ k = 6 ∨ k = 7 ∨ k = 8 ∨ k = 9 ∨ k = 10 ∨ k = 11 ∨ k = 12 ∨ k = 13 ∨ k = 14 ∨ k = 15 := by omega
  rcases this with rfl | rfl | rfl | rfl | rfl | rfl | rfl | rfl | rfl | rfl | rfl | rfl | rfl | rfl | rfl | rfl <;> rfl
/-- a block's cells. -/
def putAt (row : Array Value) (ob : Obj) : Obj := match ob with
  | .cells _ t f => .cells row t f
  | x => x
def sumL : List Int := [0, 498536548, 997073096, 651767980, 1994146192, 1802195444, 1303535960, 1342533948, 3988292384, 4027552580, 3604390888, 3412177804, 2607071920, 2262029012, 2685067896, 3183342108]
noncomputable def laidWorld (os : Os) : World :=
  { World.holding Tryd.prog os ⟨#[], #[], []⟩ with heap := (World.holding Tryd.prog os ⟨#[], #[], []⟩).heap.modify 0 (putAt (sumL.map fun z => Value.int .u32 z).toArray) }
end Go.Proofs.YtjpkodllemoniaaDoor.Cp
