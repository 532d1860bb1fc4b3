/-
  What came in: steps, keys.
-/
import Derived.Test.YthidnipmkffilaaArgs
namespace Go.Proofs.Ythidnipmkffilaa
open Go.ChangeShapes Go.WideShapes Go.ChangeAt Go.RowKit Go.Joins Go.Deep
set_option linter.unusedVariables false
structure StV where
  d : Bool
  k : Int
  v : Int
def srow (x : StV) : Array Value := #[.bool x.d, .int .u64 x.k, .int .i64 x.v]
/-- steps in memory. -/
def Stz (w : World) (q : Option Addr) (l : List StV) : Prop := ∀ i (h : i < l.length), ∃ b off, q = some ⟨b, off, none⟩ ∧ b < w.heap.size ∧ ∀ j, j < 3 → w.cell? ⟨b, off + i * 3 + j, none⟩ = (srow l[i])[j]?
/-- keys in memory. -/
def Kyz (w : World) (q : Option Addr) (l : List Int) : Prop := ∀ i (h : i < l.length), ∃ b off, q = some ⟨b, off, none⟩ ∧ b < w.heap.size ∧ w.cell? ⟨b, off + i, none⟩ = some (.int .u64 l[i])
theorem add_mid (b o j : Nat) : (⟨b, o, none⟩ : Addr).add j = ⟨b, o + j, none⟩ := by unfold Addr.add; split <;> simp_all
theorem cells53 : Try.prog.cellsOf 53 = 3 := by kernel_rfl
theorem cells3 : Try.prog.cellsOf 3 = 1 := by kernel_rfl
theorem cells4 : Try.prog.cellsOf 4 = 1 := by kernel_rfl
theorem cells35 : Try.prog.cellsOf 35 = 1 := by kernel_rfl
section
variable {H : Type} {enc : TypeId × Value → H} {W : World} {base b0 : Nat} {spare : Nat → Bool} {held : Bool} {r : Reach}
set_option maxRecDepth 100000 in
theorem open_step {n : Nat} {cs : List Value} {y : DataW H × List MemPlace} (hl : cs.length = 3) (h : DataW.trod enc Try.prog W base spare held n 53 cs = some y) :
    ∃ x : StV, cs = (srow x).toList ∧ 0 ≤ x.k ∧ x.k ≤ 18446744073709551615 := by
  match cs, hl with
  | [c0, c1, c2], _ =>
    obtain ⟨xs, m, _, _, _, hlen, hf⟩ := DataW.trod_struct Try.underlying53 h
    have g0 : DataW.trod enc Try.prog W base spare held m 4 (([c0, c1, c2].drop 0).take (Try.prog.cellsOf 4)) = xs[0]? := hf 0 _ rfl
    rw [List.getElem?_eq_getElem (by rw [hlen]; exact (by decide : 0 < 3)), cells4] at g0
    have g1 : DataW.trod enc Try.prog W base spare held m 35 (([c0, c1, c2].drop 1).take (Try.prog.cellsOf 35)) = xs[1]? := hf 1 _ rfl
    rw [List.getElem?_eq_getElem (by rw [hlen]; exact (by decide : 1 < 3)), cells35] at g1
    have g2 : DataW.trod enc Try.prog W base spare held m 3 (([c0, c1, c2].drop 2).take (Try.prog.cellsOf 3)) = xs[2]? := hf 2 _ rfl
    rw [List.getElem?_eq_getElem (by rw [hlen]; exact (by decide : 2 < 3)), cells3] at g2
    simp only [List.drop_zero, List.take_succ_cons, List.take_zero, List.drop_succ_cons] at g0 g1 g2
    obtain ⟨a0, e0, _⟩ := DataW.trod_bool Try.underlying4 g0
    obtain ⟨a1, e1, _, w1⟩ := DataW.trod_int Try.underlying35 g1
    obtain ⟨a2, e2, _, w2⟩ := DataW.trod_int Try.underlying3 g2
    simp at e0 e1 e2
    subst e0 e1 e2
    have hb1 := bounds_u64 w1
    exact ⟨⟨a0, a1, a2⟩, rfl, hb1⟩
set_option maxRecDepth 100000 in
theorem open_steps {v : Value} {d : DataW H} {p : List MemPlace} (hv : Value.okWide Try.prog W r b0 44 v) (h : DataW.Trod enc Try.prog W base (fun _ => true) held 44 v d p) :
    ∃ q cap l, v = .slice q (l : List StV).length cap ∧ Stz W q l ∧ (l = [] ∨ ∃ elems rest, d = .slice elems rest ∧ l.length ≤ elems.length) ∧ (∀ x ∈ l, 0 ≤ x.k ∧ x.k ≤ 18446744073709551615) ∧ l.length ≤ maxLen := by
  obtain ⟨a0, len0, cap0, rfl⟩ := okWide_slice (P := Try.prog) Try.underlying44 hv
  obtain ⟨fuel, hf⟩ := h
  rcases open_slice Try.underlying44 hf with ⟨hcs, _⟩ | ⟨a, len, cap, m, n, D, Pl, hcs, _, hl, hm, hmm, hx, hr⟩
  · simp [Value.cells] at hcs
    obtain ⟨rfl, rfl, rfl⟩ := hcs
    exact ⟨none, 0, [], rfl, fun i hi => by simp at hi, Or.inl rfl, by simp, by simp⟩
  · simp [Value.cells] at hcs
    obtain ⟨rfl, rfl, rfl⟩ := hcs
    simp only [if_true] at hmm
    subst hmm
    rw [cells53] at hr
    haveI : Inhabited StV := ⟨⟨false, 0, 0⟩⟩
    obtain ⟨Z, hZ⟩ := choose_lt (α := StV) (p := fun i z => W.cells? base (a.add (i * 3)) 3 = some (srow z).toList ∧ 0 ≤ z.k ∧ z.k ≤ 18446744073709551615) (n := m) (fun i hi => by
      obtain ⟨cs', h1, h2⟩ := hr i hi
      obtain ⟨z, rfl, h3⟩ := open_step (World.cells?_some h1).2.1 h2
      exact ⟨z, h1, h3⟩)
    refine ⟨some a, m, (List.range len0).map Z, by simp, ?_, Or.inr ⟨_, _, congrArg Prod.fst hx, by simp⟩, ?_, by simp; omega⟩
    · intro i hi
      have hi' : i < len0 := by simpa using hi
      obtain ⟨hc, _⟩ := hZ i (by omega)
      obtain ⟨hc0, _⟩ := hZ 0 (by omega)
      obtain ⟨_, _, hcc0⟩ := World.cells?_some hc0
      obtain ⟨_, _, hcc⟩ := World.cells?_some hc
      have e1 : ((List.range len0).map Z)[i] = Z i := by simp
      rw [e1]
      obtain ⟨b, off, spot⟩ := a
      have hspot : spot = none := by
        have := hcc0 0 (by omega)
        simpa [Addr.add] using World.cell?_spot this
      subst hspot
      have g0 := hcc 0 (by omega)
      rw [add_mid, add_mid] at g0
      refine ⟨b, off, rfl, block_lt_of_cell (v := .bool (Z i).d) g0, ?_⟩
      intro j hj
      have g := hcc j hj
      rw [add_mid, add_mid] at g
      rw [g]
      simp
    · intro x hx'
      obtain ⟨i, hi, rfl⟩ := List.mem_map.1 hx'
      exact (hZ i (by have := List.mem_range.1 hi; omega)).2
set_option maxRecDepth 100000 in
theorem open_keys {v : Value} {d : DataW H} {p : List MemPlace} (hv : Value.okWide Try.prog W r b0 45 v) (h : DataW.Trod enc Try.prog W base spare held 45 v d p) :
    ∃ q cap l, v = .slice q (l : List Int).length cap ∧ Kyz W q l ∧ (l = [] ∨ ∃ elems rest, d = .slice elems rest ∧ l.length ≤ elems.length) ∧ (∀ x ∈ l, 0 ≤ x ∧ x ≤ 18446744073709551615) ∧ l.length ≤ maxLen := by
  obtain ⟨a0, len0, cap0, rfl⟩ := okWide_slice (P := Try.prog) Try.underlying45 hv
  obtain ⟨fuel, hf⟩ := h
  rcases open_ints Try.underlying45 Try.underlying35 (by kernel_rfl) hf with ⟨hcs, _⟩ | ⟨x, l, c, zs, hcs, _, hl, hm, hz, hd, hcell, hwz⟩
  · simp [Value.cells] at hcs
    obtain ⟨rfl, rfl, rfl⟩ := hcs
    exact ⟨none, 0, [], rfl, fun i hi => by simp at hi, Or.inl rfl, by simp, by simp⟩
  · simp [Value.cells] at hcs
    obtain ⟨rfl, rfl, rfl⟩ := hcs
    have hz' : len0 ≤ zs.length := by
      have h9 : zs.length = if spare x.block = true then cap0 else len0 := by simpa using hz
      rw [h9]
      split <;> omega
    have hln : (zs.take len0).length = len0 := by simp; omega
    refine ⟨some x, cap0, zs.take len0, by rw [hln], ?_, Or.inr ⟨_, _, congrArg Prod.fst hd, by simp [lits]⟩, ?_, by omega⟩
    · intro i hi
      have hi' : i < len0 := by omega
      obtain ⟨b, off, spot⟩ := x
      have hc := hcell 0 (by omega)
      have hspot : spot = none := by simpa [Addr.add] using World.cell?_spot hc
      subst hspot
      have h2 := hcell i (by omega)
      rw [add_mid] at h2
      refine ⟨b, off, rfl, block_lt_of_cell h2, ?_⟩
      rw [h2]
      simp [List.getD, show i < zs.length by omega]
    · intro y hy
      exact bounds_u64 (hwz y (List.mem_of_mem_take hy))
end
theorem Stz.on {w w' : World} {q : Option Addr} {l : List StV} (h : Stz w q l) (hb : Below w.heap.size w w') : Stz w' q l := by
  intro i hi
  obtain ⟨b, off, e, hl, hc⟩ := h i hi
  refine ⟨b, off, e, Nat.lt_of_lt_of_le hl hb.size, ?_⟩
  intro j hj
  rw [← hc j hj]
  unfold World.cell?
  simp only [hb.block b hl]
theorem Kyz.on {w w' : World} {q : Option Addr} {l : List Int} (h : Kyz w q l) (hb : Below w.heap.size w w') : Kyz w' q l := by
  intro i hi
  obtain ⟨b, off, e, hl, hc⟩ := h i hi
  refine ⟨b, off, e, Nat.lt_of_lt_of_le hl hb.size, ?_⟩
  rw [← hc]
  unfold World.cell?
  simp only [hb.block b hl]
theorem Stz.cells {w : World} {q : Option Addr} {l : List StV} (h : Stz w q l) {i : Nat} (hi : i < l.length) : ∃ b off, q = some ⟨b, off, none⟩ ∧ b < w.heap.size ∧ w.cell? ⟨b, off + i * 3, none⟩ = some (.bool l[i].d) ∧ w.cell? ⟨b, off + i * 3 + 1, none⟩ = some (.int .u64 l[i].k) ∧ w.cell? ⟨b, off + i * 3 + 2, none⟩ = some (.int .i64 l[i].v) := by
  obtain ⟨b, off, e, hl, hc⟩ := h i hi
  exact ⟨b, off, e, hl, hc 0 (by omega), hc 1 (by omega), hc 2 (by omega)⟩
end Go.Proofs.Ythidnipmkffilaa
