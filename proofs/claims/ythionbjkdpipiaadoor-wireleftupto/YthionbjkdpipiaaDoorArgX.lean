/-
  Bytes that came in, with their bound.
-/
import Derived.Test.YthionbjkdpipiaaDoorArgs
import Derived.Test.YthionbjkdpipiaaDoorHanA
import Derived.SizedLaws
namespace Go.Proofs.YthionbjkdpipiaaDoor
open Go.ChangeShapes Go.WideShapes Go.ChangeAt Go.RowKit Go.Joins Crc
set_option linter.unusedVariables false

section
variable {H : Type} {enc : TypeId × Value → H} {W : World} {base b0 : Nat} {spare : Nat → Bool} {held : Bool} {r : Reach}
theorem open_sx {v : Value} {d : DataW H} {p : List MemPlace} (hv : Value.okWide Tryd.prog W r b0 22 v) (h : DataW.Trod enc Tryd.prog W base spare held 22 v d p) :
    ∃ xs : List Nat, Oct xs ∧ Sx W v xs ∧ (xs = [] ∨ ∃ elems rest, d = .slice elems rest ∧ xs.length ≤ elems.length) := by
  obtain ⟨a0, len0, cap0, rfl⟩ := okWide_slice Tryd.underlying22 hv
  obtain ⟨fuel, hf⟩ := h
  rcases open_ints Tryd.underlying22 Tryd.underlying5 (by kernel_rfl) hf with ⟨hcs, _⟩ | ⟨x, l, c, zs, hcs, _, hl, hm, hz, hd, hcell, hwz⟩
  · simp [Value.cells] at hcs
    obtain ⟨rfl, rfl, rfl⟩ := hcs
    exact ⟨[], fun x hx => by simp at hx, Or.inl ⟨rfl, rfl⟩, Or.inl rfl⟩
  · simp [Value.cells] at hcs
    obtain ⟨rfl, rfl, rfl⟩ := hcs
    have hz' : len0 ≤ zs.length := by
      have h9 : zs.length = if spare x.block = true then cap0 else len0 := by simpa using hz
      rw [h9]
      split <;> omega
    refine ⟨(zs.take len0).map Int.toNat, ?_, ?_, Or.inr ⟨_, _, congrArg Prod.fst hd, by simp [lits]⟩⟩
    · intro y hy
      simp only [List.mem_map] at hy
      obtain ⟨z, hz1, rfl⟩ := hy
      obtain ⟨n, rfl, h256⟩ := nat_u8 (hwz _ (List.mem_of_mem_take hz1))
      simpa using h256
    · by_cases h0 : len0 = 0
      · subst h0
        exact Or.inr (Or.inl ⟨by simp, _, _, rfl⟩)
      · right
        right
        obtain ⟨b, off, spot⟩ := x
        have hc := hcell 0 (by omega)
        have hspot : spot = none := by simpa [Addr.add] using World.cell?_spot hc
        subst hspot
        refine ⟨b, off, cap0, by simp; omega, ?_⟩
        intro i hi
        have hi' : i < len0 := by simp at hi; omega
        have h2 := hcell i (by omega)
        rw [Addr.add_mid] at h2
        rw [h2]
        have e3 : zs.getD i 0 = zs[i] := by simp [List.getD, show i < zs.length by omega]
        obtain ⟨n, en, _⟩ := nat_u8 (hwz _ (List.getElem_mem (show i < zs.length by omega)))
        simp
        simp [show i < zs.length by omega]
        omega
theorem bytes5 : Tryd.prog.bytesOf 5 = 1 := by kernel_rfl
/-- the bound that the rows' form gives. -/
theorem len_sx {ts : List TypeId} {ds : List (DataW H)} (h : (DataW.weightsEach Tryd.prog ts ds).all (· ≤ reachBytes) = true) (j : Nat) (ht : ts[j]? = some 22) {d : DataW H} (hd : ds[j]? = some d) {xs : List Nat}
    (hx : xs = [] ∨ ∃ elems rest, d = .slice elems rest ∧ xs.length ≤ elems.length) : xs.length ≤ 140737488351232 := by
  rcases hx with rfl | ⟨elems, rest, rfl, hl⟩
  · simp
  · have := sized_slice h ht hd Tryd.underlying22
    rw [bytes5] at this
    unfold reachBytes at this
    omega
end
end Go.Proofs.YthionbjkdpipiaaDoor
