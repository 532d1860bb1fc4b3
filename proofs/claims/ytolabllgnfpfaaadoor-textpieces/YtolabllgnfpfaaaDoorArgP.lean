/-
  Bytes and cuts that came in.
-/
import Derived.Test.YtolabllgnfpfaaaDoorArgs
import Derived.Lib.SmallJoins
import Derived.ChangeSlices
import Derived.ProofKit
import Derived.SizedLaws
import Derived.Deep.Slices
import Derived.Deep.Strs
import Derived.Test.YtolabllgnfpfaaaDoorTpH
namespace Go.Proofs.YtolabllgnfpfaaaDoor
open Go.ChangeShapes Go.WideShapes Go.ChangeAt Go.RowKit Go.Joins Go.Deep
set_option linter.unusedVariables false

section
variable {H : Type} {enc : TypeId × Value → H} {W : World} {base b0 : Nat} {spare : Nat → Bool} {held : Bool} {r : Reach}
set_option maxRecDepth 100000 in
theorem open_bytesP {v : Value} {d : DataW H} {p : List MemPlace} (hv : Value.okWide Tryd.prog W r b0 26 v) (h : DataW.Trod enc Tryd.prog W base spare held 26 v d p) :
    ∃ q cap l, v = .slice q (l : List UInt8).length cap ∧ Sg W q cap l ∧ l.length ≤ cap := by
  obtain ⟨a0, len0, cap0, rfl⟩ := okWide_slice (P := Tryd.prog) Tryd.underlying26 hv
  obtain ⟨fuel, hf⟩ := h
  rcases open_ints Tryd.underlying26 Tryd.underlying5 (by kernel_rfl) hf with ⟨hcs, _⟩ | ⟨x, l, c, zs, hcs, _, hl, hm, hz, hd, hcell, hwz⟩
  · simp [Value.cells] at hcs
    obtain ⟨rfl, rfl, rfl⟩ := hcs
    exact ⟨none, 0, [], rfl, ⟨fun i hi => by simp at hi, fun _ => ⟨rfl, rfl⟩⟩, by simp⟩
  · simp [Value.cells] at hcs
    obtain ⟨rfl, rfl, rfl⟩ := hcs
    have hz' : len0 ≤ zs.length := by
      have h9 : zs.length = if spare x.block = true then cap0 else len0 := by simpa using hz
      rw [h9]
      split <;> omega
    have hln : ((zs.take len0).map (fun z => UInt8.ofNat z.toNat)).length = len0 := by simp; omega
    refine ⟨some x, cap0, (zs.take len0).map (fun z => UInt8.ofNat z.toNat), by rw [hln], ⟨?_, fun h => by cases h⟩, by omega⟩
    intro i hi
    have hi' : i < len0 := by omega
    obtain ⟨b, off, spot⟩ := x
    have hc := hcell 0 (by omega)
    have hspot : spot = none := by simpa [Addr.add] using World.cell?_spot hc
    subst hspot
    refine ⟨b, off, rfl, ?_⟩
    have h2 := hcell i (by omega)
    rw [Addr.add_mid] at h2
    rw [h2]
    have e3 : zs.getD i 0 = zs[i] := by simp [List.getD, show i < zs.length by omega]
    have h4 := bounds_u8 (hwz _ (List.getElem_mem (show i < zs.length by omega)))
    rw [e3]
    have e5 : ((zs.take len0).map (fun z => UInt8.ofNat z.toNat))[i] = UInt8.ofNat zs[i].toNat := by simp
    rw [e5]
    simp
    omega
set_option maxRecDepth 100000 in
theorem open_cuts {v : Value} {d : DataW H} {p : List MemPlace} (hv : Value.okWide Tryd.prog W r b0 44 v) (h : DataW.Trod enc Tryd.prog W base spare held 44 v d p) :
    ∃ q cap l, v = .slice q (l : List Int).length cap ∧ Vs W q l ∧ (l = [] ∨ ∃ elems rest, d = .slice elems rest ∧ l.length ≤ elems.length) := by
  obtain ⟨a0, len0, cap0, rfl⟩ := okWide_slice (P := Tryd.prog) Tryd.underlying44 hv
  obtain ⟨fuel, hf⟩ := h
  rcases open_ints Tryd.underlying44 Tryd.underlying3 (by kernel_rfl) hf with ⟨hcs, _⟩ | ⟨x, l, c, zs, hcs, _, hl, hm, hz, hd, hcell, hwz⟩
  · simp [Value.cells] at hcs
    obtain ⟨rfl, rfl, rfl⟩ := hcs
    exact ⟨none, 0, [], rfl, fun i hi => by simp at hi, Or.inl rfl⟩
  · simp [Value.cells] at hcs
    obtain ⟨rfl, rfl, rfl⟩ := hcs
    have hz' : len0 ≤ zs.length := by
      have h9 : zs.length = if spare x.block = true then cap0 else len0 := by simpa using hz
      rw [h9]
      split <;> omega
    have hln : (zs.take len0).length = len0 := by simp; omega
    refine ⟨some x, cap0, zs.take len0, by rw [hln], ?_, Or.inr ⟨_, _, congrArg Prod.fst hd, by simp [lits]⟩⟩
    intro i hi
    have hi' : i < len0 := by omega
    obtain ⟨b, off, spot⟩ := x
    have hc := hcell 0 (by omega)
    have hspot : spot = none := by simpa [Addr.add] using World.cell?_spot hc
    subst hspot
    have h2 := hcell i (by omega)
    rw [Addr.add_mid] at h2
    refine ⟨b, off, rfl, block_lt_of_cell h2, ?_⟩
    rw [h2]
    simp [List.getD, show i < zs.length by omega]
theorem bytes3 : Tryd.prog.bytesOf 3 = 8 := by kernel_rfl
set_option maxRecDepth 100000 in
theorem len_cuts {ts : List TypeId} {ds : List (DataW H)} (h : (DataW.weightsEach Tryd.prog ts ds).all (· ≤ reachBytes) = true) (j : Nat) (ht : ts[j]? = some 44) {d : DataW H} (hd : ds[j]? = some d) {l : List Int}
    (hx : l = [] ∨ ∃ elems rest, d = .slice elems rest ∧ l.length ≤ elems.length) : l.length < 9223372036854775807 := by
  rcases hx with rfl | ⟨elems, rest, rfl, hl⟩
  · simp
  · have := sized_slice h ht hd Tryd.underlying44
    rw [bytes3] at this
    unfold reachBytes at this
    omega
end
end Go.Proofs.YtolabllgnfpfaaaDoor
