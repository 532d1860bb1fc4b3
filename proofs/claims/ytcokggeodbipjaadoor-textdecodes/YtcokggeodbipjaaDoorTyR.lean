/-
  Bytes that came in, with their bound.
-/
import Derived.Test.YtcokggeodbipjaaDoorArgT
import Derived.Test.YtcokggeodbipjaaDoorTyP
namespace Go.Proofs.YtcokggeodbipjaaDoor
open Go.ChangeShapes Go.WideShapes Go.ChangeAt Go.RowKit Go.Joins Go.Deep
set_option linter.unusedVariables false

section
variable {H : Type} {enc : TypeId × Value → H} {W : World} {base b0 : Nat} {spare : Nat → Bool} {held : Bool} {r : Reach}
set_option maxRecDepth 100000 in
theorem open_bytes {v : Value} {d : DataW H} {p : List MemPlace} (hv : Value.okWide Tryd.prog W r b0 35 v) (h : DataW.Trod enc Tryd.prog W base spare held 35 v d p) :
    ∃ q cap l, v = .slice q (l : List UInt8).length cap ∧ Sg W q cap l ∧ (l = [] ∨ ∃ elems rest, d = .slice elems rest ∧ l.length ≤ elems.length) ∧ l.length ≤ cap ∧ cap < 9223372036854775808 := by
  obtain ⟨a0, len0, cap0, rfl⟩ := okWide_slice (P := Tryd.prog) Tryd.underlying35 hv
  obtain ⟨fuel, hf⟩ := h
  rcases open_ints Tryd.underlying35 Tryd.underlying5 (by kernel_rfl) hf with ⟨hcs, _⟩ | ⟨x, l, c, zs, hcs, _, hl, hm, hz, hd, hcell, hwz⟩
  · simp [Value.cells] at hcs
    obtain ⟨rfl, rfl, rfl⟩ := hcs
    exact ⟨none, 0, [], rfl, ⟨fun i hi => by simp at hi, fun _ => ⟨rfl, rfl⟩⟩, Or.inl rfl, by simp, by decide⟩
  · simp [Value.cells] at hcs
    obtain ⟨rfl, rfl, rfl⟩ := hcs
    have hz' : len0 ≤ zs.length := by
      have h9 : zs.length = if spare x.block = true then cap0 else len0 := by simpa using hz
      rw [h9]
      split <;> omega
    have hln : ((zs.take len0).map (fun z => UInt8.ofNat z.toNat)).length = len0 := by simp; omega
    refine ⟨some x, cap0, (zs.take len0).map (fun z => UInt8.ofNat z.toNat), by rw [hln], ⟨?_, fun h => by cases h⟩, Or.inr ⟨_, _, congrArg Prod.fst hd, by simp [lits]⟩, by omega, by unfold maxLen at hm; omega⟩
    intro i hi
    have hi' : i < len0 := by omega
    obtain ⟨b, off, spot⟩ := x
    have hc := hcell 0 (by omega)
    have hspot : spot = none := by simpa [Addr.add] using World.cell?_spot hc
    subst hspot
    refine ⟨b, off, rfl, ?_⟩
    have h2 := hcell i (by omega)
    rw [Addr.add_mid] at h2
    rw [h2]
    have e3 : zs.getD i 0 = zs[i] := by simp [List.getD, show i < zs.length by omega]
    have h4 := bounds_u8 (hwz _ (List.getElem_mem (show i < zs.length by omega)))
    rw [e3]
    have e5 : ((zs.take len0).map (fun z => UInt8.ofNat z.toNat))[i] = UInt8.ofNat zs[i].toNat := by simp
    rw [e5]
    simp
    omega
theorem bytes5 : Tryd.prog.bytesOf 5 = 1 := by kernel_rfl

set_option maxRecDepth 100000 in
theorem len_bytes {ts : List TypeId} {ds : List (DataW H)} (h : (DataW.weightsEach Tryd.prog ts ds).all (· ≤ reachBytes) = true) (j : Nat) (ht : ts[j]? = some 35) {d : DataW H} (hd : ds[j]? = some d) {l : List UInt8}
    (hx : l = [] ∨ ∃ elems rest, d = .slice elems rest ∧ l.length ≤ elems.length) : l.length ≤ 140737488351232 := by
  rcases hx with rfl | ⟨elems, rest, rfl, hl⟩
  · simp
  · have := sized_slice h ht hd Tryd.underlying35
    rw [bytes5] at this
    unfold reachBytes at this
    omega
end
end Go.Proofs.YtcokggeodbipjaaDoor
