/-
  What came in: slices of whole numbers; the table.
-/
import Derived.Test.YtcbfgodknonefaaDoorBmJ
import Derived.Test.YtcbfgodknonefaaDoorCards
import Derived.Test.YtcbfgodknonefaaDoorTie
import Derived.ProofKit
import Derived.OpenShut
import Derived.ShutString
import Derived.ChangeOld
import Derived.Below
import Derived.SizedLaws
import Derived.ChangeSlices
import Derived.Lib.SmallJoins
import Derived.Deep.DeepHandedRow
import Derived.Deep.Slices
import Derived.Lib.LaidTab
namespace Go.Proofs.YtcbfgodknonefaaDoor
open Go.ChangeShapes Go.WideShapes Go.ChangeAt Go.RowKit Go.Joins Go.Deep
set_option linter.unusedVariables false

theorem own : ownKnob Tryd.prog.godebug = none := by kernel_rfl
theorem laidOut : laidOutB Tryd.prog = true := by kernel_rfl
theorem gTab : Tryd.prog.globalNamed "math/bits.deBruijn64tab" = some 0 := by kernel_rfl
theorem gTabType : (Tryd.prog.globals[0]?).map (·.type) = some 67 := by kernel_rfl
theorem cells67 : Tryd.prog.cellsOf 67 = 64 := by kernel_rfl
theorem cells5 : Tryd.prog.cellsOf 5 = 1 := by kernel_rfl
def tabL : List Int := [0, 1, 56, 2, 57, 49, 28, 3, 61, 58, 42, 50, 38, 29, 17, 4, 62, 47, 59, 36, 45, 43, 51, 22, 53, 39, 33, 30, 24, 18, 12, 5, 63, 55, 48, 27, 60, 41, 37, 16, 46, 35, 44, 21, 52, 32, 23, 11, 54, 26, 40, 15, 34, 20, 31, 10, 25, 14, 19, 9, 13, 8, 7, 6]
theorem tabL_at : ∀ k : Fin 64, tabL.getD k.val 0 = ((tbl k.val : Nat) : Int) := by decide +kernel
theorem tabL_len : tabL.length = 64 := by decide +kernel

/-- the rows' list gives the table. -/
theorem laid_of {W : World} (h : laidMetH Tryd.prog [("math/bits.deBruijn64tab", Rows.laid_math_bits_deBruijn64tab)] W) : Laid W := by
  have ht : Lib.TabIs Tryd.prog W "math/bits.deBruijn64tab" .u8 tabL :=
    Lib.tabIs_of_head (rest := []) gTab gTabType Tryd.underlying67 Tryd.underlying5 cells5 cells67 h
  intro k hk
  have hc := ht.cell gTab k (by rw [tabL_len]; exact hk)
  rw [hc]
  have := tabL_at ⟨k, hk⟩
  dsimp only at this
  rw [← this]
theorem tab_lt {W : World} (h : Laid W) : 0 < W.heap.size := by
  have := h 0 (by decide)
  exact block_lt_of_cell this

/-- a world in which the table lies. -/
def putAt (cs : Array Value) : Obj → Obj
  | .cells _ t frozen => .cells cs t frozen
  | o => o
noncomputable def laidWorld (os : Os) : World :=
  { World.holding Tryd.prog os ⟨#[], #[], []⟩ with heap := (World.holding Tryd.prog os ⟨#[], #[], []⟩).heap.modify 0 (putAt (tabL.map fun z => Value.int .u8 z).toArray) }

section
variable {H : Type} {enc : TypeId × Value → H} {W : World} {base b0 : Nat} {spare : Nat → Bool} {held : Bool} {r : Reach}
set_option maxRecDepth 100000 in
theorem open_is {v : Value} {d : DataW H} {p : List MemPlace} (hv : Value.okWide Tryd.prog W r b0 29 v) (h : DataW.Trod enc Tryd.prog W base spare held 29 v d p) :
    ∃ l : List Int, Is W W.heap.size v l ∧ (∀ x ∈ l, -9223372036854775808 ≤ x ∧ x < 9223372036854775808) ∧ (l = [] ∨ ∃ elems rest, d = .slice elems rest ∧ l.length ≤ elems.length) := by
  obtain ⟨a0, len0, cap0, rfl⟩ := okWide_slice (P := Tryd.prog) Tryd.underlying29 hv
  obtain ⟨fuel, hf⟩ := h
  rcases open_ints Tryd.underlying29 Tryd.underlying3 (by kernel_rfl) hf with ⟨hcs, _⟩ | ⟨x, l, c, zs, hcs, _, hl, hm, hz, hd, hcell, hwz⟩
  · simp [Value.cells] at hcs
    obtain ⟨rfl, rfl, rfl⟩ := hcs
    exact ⟨[], Or.inl ⟨rfl, none, 0, rfl⟩, by simp, Or.inl rfl⟩
  · simp [Value.cells] at hcs
    obtain ⟨rfl, rfl, rfl⟩ := hcs
    have hz' : len0 ≤ zs.length := by
      have h9 : zs.length = if spare x.block = true then cap0 else len0 := by simpa using hz
      rw [h9]
      split <;> omega
    have hln : (zs.take len0).length = len0 := by simp; omega
    have hwf : ∀ x ∈ zs.take len0, -9223372036854775808 ≤ x ∧ x < 9223372036854775808 := by
      intro y hy
      have h4 := hwz _ (List.mem_of_mem_take hy)
      have h1 : IntKind.i64.min ≤ y ∧ y ≤ IntKind.i64.max := by simpa [Lit.wf] using h4
      have e1 : IntKind.i64.min = -9223372036854775808 := by decide
      have e2 : IntKind.i64.max = 9223372036854775807 := by decide
      omega
    by_cases h0 : len0 = 0
    · subst h0
      exact ⟨[], Or.inl ⟨rfl, _, _, rfl⟩, by simp, Or.inl rfl⟩
    · obtain ⟨b, off, spot⟩ := x
      have hc := hcell 0 (by omega)
      have hspot : spot = none := by simpa [Addr.add] using World.cell?_spot hc
      subst hspot
      have hc0 := hc
      rw [Addr.add_mid] at hc0
      refine ⟨zs.take len0, Or.inr ⟨b, off, cap0, by rw [hln], block_lt_of_cell hc0, ?_⟩, hwf, Or.inr ⟨_, _, congrArg Prod.fst hd, by simp [lits]⟩⟩
      intro i hi
      have h2 := hcell i (by omega)
      rw [Addr.add_mid] at h2
      rw [h2]
      simp [List.getD, show i < zs.length by omega]
theorem bytes3 : Tryd.prog.bytesOf 3 = 8 := by kernel_rfl
set_option maxRecDepth 100000 in
theorem len_is {ts : List TypeId} {ds : List (DataW H)} (h : (DataW.weightsEach Tryd.prog ts ds).all (· ≤ reachBytes) = true) (j : Nat) (ht : ts[j]? = some 29) {d : DataW H} (hd : ds[j]? = some d) {l : List Int}
    (hx : l = [] ∨ ∃ elems rest, d = .slice elems rest ∧ l.length ≤ elems.length) : l.length < 17592186044416 := by
  rcases hx with rfl | ⟨elems, rest, rfl, hl⟩
  · simp
  · have := sized_slice h ht hd Tryd.underlying29
    rw [bytes3] at this
    unfold reachBytes at this
    omega
end
end Go.Proofs.YtcbfgodknonefaaDoor
