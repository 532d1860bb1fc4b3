/-
  MoneyAll: what came in: steps.
-/
import Derived.Test.YthikjpccmplbiaaMaI
import Derived.Test.YthikjpccmplbiaaRows
import Derived.ProofKit
import Derived.OpenShut
import Derived.ChangeMaps5
import Derived.Lib.SmallJoins
namespace Go.Proofs.Ythikjpccmplbiaa
open Go.ChangeShapes Go.WideShapes Go.ChangeAt Go.RowKit Go.Joins Go.Deep
set_option linter.unusedVariables false
structure OpM where
  kd : Int
  tt : Int
  ta : Int
  tb : Int
  nn : Int
  wh : Int
  wl : Int
  tx : ByteArray
  xx : Int
  yy : Int
  rd : Int
def mrow (z : OpM) : Array Value := #[.int .i64 z.kd, .int .i64 z.tt, .int .i64 z.ta, .int .i64 z.tb, .int .i64 z.nn, .int .u64 z.wh, .int .u64 z.wl, .string z.tx, .int .u32 z.xx, .int .u32 z.yy, .int .i64 z.rd]
def OpM.ok (z : OpM) : Prop := (-9223372036854775808 ≤ z.nn ∧ z.nn ≤ 9223372036854775807) ∧ (0 ≤ z.wh ∧ z.wh < 18446744073709551616) ∧ (0 ≤ z.wl ∧ z.wl < 18446744073709551616) ∧ (0 ≤ z.xx ∧ z.xx < 4294967296) ∧ (0 ≤ z.yy ∧ z.yy < 4294967296) ∧ z.tx.size ≤ maxLen
/-- steps in memory. -/
def Opz (w : World) (q : Option Addr) (l : List OpM) : Prop := ∀ i (h : i < l.length), ∃ b off, q = some ⟨b, off, none⟩ ∧ b < w.heap.size ∧ ∀ j, j < 11 → w.cell? ⟨b, off + i * 11 + j, none⟩ = (mrow l[i])[j]?
theorem add_mid (b o j : Nat) : (⟨b, o, none⟩ : Addr).add j = ⟨b, o + j, none⟩ := by unfold Addr.add; split <;> simp_all
theorem own : ownKnob Try.prog.godebug = none := by kernel_rfl
theorem cells39 : Try.prog.cellsOf 39 = 11 := by kernel_rfl
theorem cells3 : Try.prog.cellsOf 3 = 1 := by kernel_rfl
theorem cells2 : Try.prog.cellsOf 2 = 1 := by kernel_rfl
theorem cells36 : Try.prog.cellsOf 36 = 2 := by kernel_rfl
theorem cells24 : Try.prog.cellsOf 24 = 1 := by kernel_rfl
theorem cells9 : Try.prog.cellsOf 9 = 1 := by kernel_rfl
theorem cells37 : Try.prog.cellsOf 37 = 1 := by kernel_rfl
theorem bounds_i64 {x : Int} (h : (Lit.int .i64 x).wf = true) : -9223372036854775808 ≤ x ∧ x < 9223372036854775808 := by
  simp [Lit.wf, IntKind.min, IntKind.max, IntKind.signed, IntKind.bits] at h; omega
theorem bounds_u64' {x : Int} (h : (Lit.int .u64 x).wf = true) : 0 ≤ x ∧ x < 18446744073709551616 := by have := bounds_u64 h; omega
theorem bounds_u32' {x : Int} (h : (Lit.int .u32 x).wf = true) : 0 ≤ x ∧ x < 4294967296 := by
  simp [Lit.wf, IntKind.min, IntKind.max, IntKind.signed, IntKind.bits] at h; omega
section
variable {H : Type} {enc : TypeId × Value → H} {W : World} {base b0 : Nat} {spare : Nat → Bool} {held : Bool} {r : Reach}
theorem trod_pair {n : Nat} {c0 c1 : Value} {y : DataW H × List MemPlace} (h : DataW.trod enc Try.prog W base spare held n 36 [c0, c1] = some y) :
    ∃ k y0 y1, DataW.trod enc Try.prog W base spare held k 24 [c0] = some y0 ∧ DataW.trod enc Try.prog W base spare held k 24 [c1] = some y1 := by
  cases n with
  | zero => simp [DataW.trod] at h
  | succ n =>
    unfold DataW.trod at h
    rw [Try.underlying36] at h
    have r2 : List.range 2 = [0, 1] := rfl
    simp [r2, cells24] at h
    obtain ⟨_, hf⟩ := h
    cases h0 : DataW.trod enc Try.prog W base spare held n 24 [c0] with
    | none => simp [h0] at hf
    | some y0 =>
      cases h1 : DataW.trod enc Try.prog W base spare held n 24 [c1] with
      | none => simp [h0, h1] at hf
      | some y1 => exact ⟨n, y0, y1, h0, h1⟩
set_option maxRecDepth 100000 in
theorem open_op {n : Nat} {cs : List Value} {y : DataW H × List MemPlace} (hl : cs.length = 11) (h : DataW.trod enc Try.prog W base spare held n 39 cs = some y) :
    ∃ x : OpM, cs = (mrow x).toList ∧ x.ok := by
  match cs, hl with
  | [c0, c1, c2, c3, c4, c5, c6, c7, c8, c9, c10], _ =>
    obtain ⟨xs, m, _, _, _, hlen, hf⟩ := DataW.trod_struct Try.underlying39 h
    have g0 : DataW.trod enc Try.prog W base spare held m 3 (([c0, c1, c2, c3, c4, c5, c6, c7, c8, c9, c10].drop 0).take (Try.prog.cellsOf 3)) = xs[0]? := hf 0 _ rfl
    rw [List.getElem?_eq_getElem (by rw [hlen]; exact (by decide : 0 < 10)), cells3] at g0
    have g1 : DataW.trod enc Try.prog W base spare held m 3 (([c0, c1, c2, c3, c4, c5, c6, c7, c8, c9, c10].drop 1).take (Try.prog.cellsOf 3)) = xs[1]? := hf 1 _ rfl
    rw [List.getElem?_eq_getElem (by rw [hlen]; exact (by decide : 1 < 10)), cells3] at g1
    have g2 : DataW.trod enc Try.prog W base spare held m 3 (([c0, c1, c2, c3, c4, c5, c6, c7, c8, c9, c10].drop 2).take (Try.prog.cellsOf 3)) = xs[2]? := hf 2 _ rfl
    rw [List.getElem?_eq_getElem (by rw [hlen]; exact (by decide : 2 < 10)), cells3] at g2
    have g3 : DataW.trod enc Try.prog W base spare held m 3 (([c0, c1, c2, c3, c4, c5, c6, c7, c8, c9, c10].drop 3).take (Try.prog.cellsOf 3)) = xs[3]? := hf 3 _ rfl
    rw [List.getElem?_eq_getElem (by rw [hlen]; exact (by decide : 3 < 10)), cells3] at g3
    have g4 : DataW.trod enc Try.prog W base spare held m 2 (([c0, c1, c2, c3, c4, c5, c6, c7, c8, c9, c10].drop 4).take (Try.prog.cellsOf 2)) = xs[4]? := hf 4 _ rfl
    rw [List.getElem?_eq_getElem (by rw [hlen]; exact (by decide : 4 < 10)), cells2] at g4
    have g5 : DataW.trod enc Try.prog W base spare held m 36 (([c0, c1, c2, c3, c4, c5, c6, c7, c8, c9, c10].drop 5).take (Try.prog.cellsOf 36)) = xs[5]? := hf 5 _ rfl
    rw [List.getElem?_eq_getElem (by rw [hlen]; exact (by decide : 5 < 10)), cells36] at g5
    have g6 : DataW.trod enc Try.prog W base spare held m 9 (([c0, c1, c2, c3, c4, c5, c6, c7, c8, c9, c10].drop 7).take (Try.prog.cellsOf 9)) = xs[6]? := hf 6 _ rfl
    rw [List.getElem?_eq_getElem (by rw [hlen]; exact (by decide : 6 < 10)), cells9] at g6
    have g7 : DataW.trod enc Try.prog W base spare held m 37 (([c0, c1, c2, c3, c4, c5, c6, c7, c8, c9, c10].drop 8).take (Try.prog.cellsOf 37)) = xs[7]? := hf 7 _ rfl
    rw [List.getElem?_eq_getElem (by rw [hlen]; exact (by decide : 7 < 10)), cells37] at g7
    have g8 : DataW.trod enc Try.prog W base spare held m 37 (([c0, c1, c2, c3, c4, c5, c6, c7, c8, c9, c10].drop 9).take (Try.prog.cellsOf 37)) = xs[8]? := hf 8 _ rfl
    rw [List.getElem?_eq_getElem (by rw [hlen]; exact (by decide : 8 < 10)), cells37] at g8
    have g9 : DataW.trod enc Try.prog W base spare held m 3 (([c0, c1, c2, c3, c4, c5, c6, c7, c8, c9, c10].drop 10).take (Try.prog.cellsOf 3)) = xs[9]? := hf 9 _ rfl
    rw [List.getElem?_eq_getElem (by rw [hlen]; exact (by decide : 9 < 10)), cells3] at g9
    simp only [List.drop_zero, List.take_succ_cons, List.take_zero, List.drop_succ_cons] at g0 g1 g2 g3 g4 g5 g6 g7 g8 g9
    obtain ⟨a0, e0, _, w0⟩ := DataW.trod_int Try.underlying3 g0
    obtain ⟨a1, e1, _, w1⟩ := DataW.trod_int Try.underlying3 g1
    obtain ⟨a2, e2, _, w2⟩ := DataW.trod_int Try.underlying3 g2
    obtain ⟨a3, e3, _, w3⟩ := DataW.trod_int Try.underlying3 g3
    obtain ⟨a4, e4, _, w4⟩ := DataW.trod_int Try.underlying2 g4
    obtain ⟨k, y0, y1, g5a, g5b⟩ := trod_pair g5
    obtain ⟨a5, e5, _, w5⟩ := DataW.trod_int Try.underlying24 g5a
    obtain ⟨a6, e6, _, w6⟩ := DataW.trod_int Try.underlying24 g5b
    obtain ⟨a7, e7, _, w7⟩ := DataW.trod_string Try.underlying9 g6
    obtain ⟨a8, e8, _, w8⟩ := DataW.trod_int Try.underlying37 g7
    obtain ⟨a9, e9, _, w9⟩ := DataW.trod_int Try.underlying37 g8
    obtain ⟨a10, e10, _, w10⟩ := DataW.trod_int Try.underlying3 g9
    simp at e0 e1 e2 e3 e4 e5 e6 e7 e8 e9 e10
    subst e0 e1 e2 e3 e4 e5 e6 e7 e8 e9 e10
    exact ⟨⟨a0, a1, a2, a3, a4, a5, a6, a7, a8, a9, a10⟩, rfl, by have := bounds_i64 w4; exact ⟨this.1, by show a4 ≤ _; omega⟩, bounds_u64' w5, bounds_u64' w6, bounds_u32' w8, bounds_u32' w9, w7⟩
set_option maxRecDepth 100000 in
theorem open_ops {v : Value} {d : DataW H} {p : List MemPlace} (hv : Value.okWide Try.prog W r b0 22 v) (h : DataW.Trod enc Try.prog W base (fun _ => true) held 22 v d p) :
    ∃ q cap l, v = .slice q (l : List OpM).length cap ∧ Opz W q l ∧ (∀ x ∈ l, x.ok) ∧ l.length ≤ maxLen := by
  obtain ⟨a0, len0, cap0, rfl⟩ := okWide_slice (P := Try.prog) Try.underlying22 hv
  obtain ⟨fuel, hf⟩ := h
  rcases open_slice Try.underlying22 hf with ⟨hcs, _⟩ | ⟨a, len, cap, m, n, D, Pl, hcs, _, hl, hm, hmm, hx, hr⟩
  · simp [Value.cells] at hcs
    obtain ⟨rfl, rfl, rfl⟩ := hcs
    exact ⟨none, 0, [], rfl, fun i hi => by simp at hi, by simp, by simp⟩
  · simp [Value.cells] at hcs
    obtain ⟨rfl, rfl, rfl⟩ := hcs
    simp only [if_true] at hmm
    subst hmm
    rw [cells39] at hr
    haveI : Inhabited OpM := ⟨⟨0, 0, 0, 0, 0, 0, 0, ⟨#[]⟩, 0, 0, 0⟩⟩
    obtain ⟨Z, hZ⟩ := choose_lt (α := OpM) (p := fun i z => W.cells? base (a.add (i * 11)) 11 = some (mrow z).toList ∧ z.ok) (n := m) (fun i hi => by
      obtain ⟨cs', h1, h2⟩ := hr i hi
      obtain ⟨z, rfl, h3⟩ := open_op (World.cells?_some h1).2.1 h2
      exact ⟨z, h1, h3⟩)
    refine ⟨some a, m, (List.range len0).map Z, by simp, ?_, ?_, by simp; omega⟩
    · intro i hi
      have hi' : i < len0 := by simpa using hi
      obtain ⟨hc, _⟩ := hZ i (by omega)
      obtain ⟨hc0, _⟩ := hZ 0 (by omega)
      obtain ⟨_, _, hcc0⟩ := World.cells?_some hc0
      obtain ⟨_, _, hcc⟩ := World.cells?_some hc
      have e1 : ((List.range len0).map Z)[i] = Z i := by simp
      rw [e1]
      obtain ⟨b, off, spot⟩ := a
      have hspot : spot = none := by
        have := hcc0 0 (by omega)
        simpa [Addr.add] using World.cell?_spot this
      subst hspot
      have g0 := hcc 0 (by omega)
      rw [add_mid, add_mid] at g0
      refine ⟨b, off, rfl, block_lt_of_cell (v := .int .i64 (Z i).kd) g0, ?_⟩
      intro j hj
      have g := hcc j hj
      rw [add_mid, add_mid] at g
      rw [g]
      simp
    · intro x hx'
      obtain ⟨i, hi, rfl⟩ := List.mem_map.1 hx'
      exact (hZ i (by have := List.mem_range.1 hi; omega)).2
end
theorem Opz.on {w w' : World} {q : Option Addr} {l : List OpM} (h : Opz w q l) (hb : Below w.heap.size w w') : Opz w' q l := by
  intro i hi
  obtain ⟨b, off, e, hl, hc⟩ := h i hi
  refine ⟨b, off, e, Nat.lt_of_lt_of_le hl hb.size, ?_⟩
  intro j hj
  rw [← hc j hj]
  unfold World.cell?
  simp only [hb.block b hl]
end Go.Proofs.Ythikjpccmplbiaa
