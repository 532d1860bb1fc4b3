/-
  CdG
-/
import Derived.Test.YtegdhffejmbakaaCdF
import Derived.Test.YtegdhffejmbakaaRows
import Derived.ProofKit
import Derived.OpenShut
import Derived.ChangeMaps5
import Derived.Lib.SmallJoins
namespace Go.Proofs.Ytegdhffejmbakaa.Ac
open Go.ChangeShapes Go.WideShapes Go.ChangeAt Go.RowKit Go.Joins Go.Deep
set_option linter.unusedVariables false
set_option maxRecDepth 100000
theorem add_mid (b o j : Nat) : (⟨b, o, none⟩ : Addr).add j = ⟨b, o + j, none⟩ := by unfold Addr.add; split <;> simp_all
theorem own : ownKnob Try.prog.godebug = none := by kernel_rfl
theorem laidOut : laidOutB Try.prog = true := by kernel_rfl
theorem cells61 : Try.prog.cellsOf 61 = 3 := by kernel_rfl
theorem cells23 : Try.prog.cellsOf 23 = 1 := by kernel_rfl
theorem cells59 : Try.prog.cellsOf 59 = 2 := by kernel_rfl
theorem cells24 : Try.prog.cellsOf 24 = 1 := by kernel_rfl
theorem bounds_u64' {x : Int} (h : (Lit.int .u64 x).wf = true) : 0 ≤ x ∧ x < 18446744073709551616 := by have := bounds_u64 h; omega
section
variable {H : Type} {enc : TypeId × Value → H} {W : World} {base b0 : Nat} {spare : Nat → Bool} {held : Bool} {r : Reach}
theorem trod_pair {n : Nat} {c0 c1 : Value} {y : DataW H × List MemPlace} (h : DataW.trod enc Try.prog W base spare held n 59 [c0, c1] = some y) :
    ∃ k y0 y1, DataW.trod enc Try.prog W base spare held k 24 [c0] = some y0 ∧ DataW.trod enc Try.prog W base spare held k 24 [c1] = some y1 := by
  cases n with
  | zero => simp [DataW.trod] at h
  | succ n =>
    unfold DataW.trod at h
    rw [Try.underlying59] at h
    have r2 : List.range 2 = [0, 1] := rfl
    simp [r2, cells24] at h
    obtain ⟨_, hf⟩ := h
    cases h0 : DataW.trod enc Try.prog W base spare held n 24 [c0] with
    | none => simp [h0] at hf
    | some y0 =>
      cases h1 : DataW.trod enc Try.prog W base spare held n 24 [c1] with
      | none => simp [h0, h1] at hf
      | some y1 => exact ⟨n, y0, y1, h0, h1⟩
set_option maxRecDepth 100000 in
theorem open_ow {n : Nat} {cs : List Value} {y : DataW H × List MemPlace} (hl : cs.length = 3) (h : DataW.trod enc Try.prog W base spare held n 61 cs = some y) :
    ∃ x : Ow, cs = (orow x).toList ∧ x.ok := by
  match cs, hl with
  | [c0, c1, c2], _ =>
    obtain ⟨xs, m, _, _, _, hlen, hf⟩ := DataW.trod_struct Try.underlying61 h
    have g0 : DataW.trod enc Try.prog W base spare held m 23 (([c0, c1, c2].drop 0).take (Try.prog.cellsOf 23)) = xs[0]? := hf 0 _ rfl
    rw [List.getElem?_eq_getElem (by rw [hlen]; exact (by decide : 0 < 2)), cells23] at g0
    have g1 : DataW.trod enc Try.prog W base spare held m 59 (([c0, c1, c2].drop 1).take (Try.prog.cellsOf 59)) = xs[1]? := hf 1 _ rfl
    rw [List.getElem?_eq_getElem (by rw [hlen]; exact (by decide : 1 < 2)), cells59] at g1
    simp only [List.drop_zero, List.take_succ_cons, List.take_zero, List.drop_succ_cons] at g0 g1
    obtain ⟨a0, e0, _, w0⟩ := DataW.trod_int Try.underlying23 g0
    obtain ⟨k, y0, y1, g1a, g1b⟩ := trod_pair g1
    obtain ⟨a1, e1, _, w1⟩ := DataW.trod_int Try.underlying24 g1a
    obtain ⟨a2, e2, _, w2⟩ := DataW.trod_int Try.underlying24 g1b
    simp at e0 e1 e2
    subst e0 e1 e2
    exact ⟨⟨a0, a1, a2⟩, rfl, w0, bounds_u64' w1, bounds_u64' w2⟩
set_option maxRecDepth 100000 in
theorem open_ows {v : Value} {d : DataW H} {p : List MemPlace} (hv : Value.okWide Try.prog W r b0 56 v) (h : DataW.Trod enc Try.prog W base (fun _ => true) held 56 v d p) :
    ∃ q cap l, v = .slice q (l : List Ow).length cap ∧ Oz W q l ∧ ∀ x ∈ l, x.ok := by
  obtain ⟨a0, len0, cap0, rfl⟩ := okWide_slice (P := Try.prog) Try.underlying56 hv
  obtain ⟨fuel, hf⟩ := h
  rcases open_slice Try.underlying56 hf with ⟨hcs, _⟩ | ⟨a, len, cap, m, n, D, Pl, hcs, _, hl, hm, hmm, hx, hr⟩
  · simp [Value.cells] at hcs
    obtain ⟨rfl, rfl, rfl⟩ := hcs
    exact ⟨none, 0, [], rfl, fun i hi => by simp at hi, by simp⟩
  · simp [Value.cells] at hcs
    obtain ⟨rfl, rfl, rfl⟩ := hcs
    simp only [if_true] at hmm
    subst hmm
    rw [cells61] at hr
    haveI : Inhabited Ow := ⟨⟨0, 0, 0⟩⟩
    obtain ⟨Z, hZ⟩ := choose_lt (α := Ow) (p := fun i z => W.cells? base (a.add (i * 3)) 3 = some (orow z).toList ∧ z.ok) (n := m) (fun i hi => by
      obtain ⟨cs', h1, h2⟩ := hr i hi
      obtain ⟨z, rfl, h3⟩ := open_ow (World.cells?_some h1).2.1 h2
      exact ⟨z, h1, h3⟩)
    refine ⟨some a, m, (List.range len0).map Z, by simp, ?_, ?_⟩
    · intro i hi
      have hi' : i < len0 := by simpa using hi
      obtain ⟨hc, _⟩ := hZ i (by omega)
      obtain ⟨hc0, _⟩ := hZ 0 (by omega)
      obtain ⟨_, _, hcc0⟩ := World.cells?_some hc0
      obtain ⟨_, _, hcc⟩ := World.cells?_some hc
      have e1 : ((List.range len0).map Z)[i] = Z i := by simp
      rw [e1]
      obtain ⟨b, off, spot⟩ := a
      have hspot : spot = none := by
        have := hcc0 0 (by omega)
        simpa [Addr.add] using World.cell?_spot this
      subst hspot
      have g0 := hcc 0 (by omega)
      rw [add_mid, add_mid] at g0
      refine ⟨b, off, rfl, block_lt_of_cell (v := .int .u32 (Z i).m) g0, ?_⟩
      intro j hj
      have g := hcc j hj
      rw [add_mid, add_mid] at g
      rw [g]
      simp
    · intro x hx'
      obtain ⟨i, hi, rfl⟩ := List.mem_map.1 hx'
      exact (hZ i (by have := List.mem_range.1 hi; omega)).2
end
theorem all_len {H : Type} (l : List (DataW H)) : l.length ≤ Rows.uptoBulkAll l := by
  induction l with
  | nil => simp
  | cons x r ih =>
    have h1 : 1 ≤ Rows.uptoBulk x := by
      cases x with
      | lit l => cases l <;> simp [Rows.uptoBulk]
      | _ => simp [Rows.uptoBulk]
    simp only [Rows.uptoBulkAll, List.length_cons]
    omega
theorem bulk_ows {H : Type} {enc : TypeId × Value → H} {W : World} {base b0 : Nat} {held : Bool} {r : Reach} {v : Value} {d : DataW H} {p : List MemPlace} (hv : Value.okWide Try.prog W r b0 56 v) (h : DataW.Trod enc Try.prog W base (fun _ => true) held 56 v d p) : ∀ q n c, v = .slice q n c → n ≤ Rows.uptoBulk d := by
  intro q n c hv'
  subst hv'
  obtain ⟨fuel, hf⟩ := h
  rcases open_slice Try.underlying56 hf with ⟨hcs, _⟩ | ⟨a, len, cap, m, n', D, Pl, hcs, _, hl, hm, hmm, hx, hr⟩
  · simp [Value.cells] at hcs
    obtain ⟨rfl, rfl, rfl⟩ := hcs
    omega
  · simp [Value.cells] at hcs
    obtain ⟨rfl, rfl, rfl⟩ := hcs
    have e := congrArg Prod.fst hx
    simp only at e
    subst e
    simp only [Rows.uptoBulk]
    have := all_len ((List.range n).map D)
    simp only [List.length_map, List.length_range] at this
    omega
end Go.Proofs.Ytegdhffejmbakaa.Ac
