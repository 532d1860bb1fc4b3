/-
  Contracts and plain facts, part 9.
-/
import Derived.Test.YtacdjioieclggaaDoorZh
namespace Go.Proofs.YtacdjioieclggaaDoor
open Go.ChangeShapes Go.WideShapes Go.ChangeAt Go.RowKit Go.Joins
set_option linter.unusedVariables false
theorem own : ownKnob Tryd.prog.godebug = none := by kernel_rfl
theorem laidOut : laidOutB Tryd.prog = true := by kernel_rfl
theorem g0Type : (Tryd.prog.globals[1]?).map (·.type) = some 156 := by kernel_rfl
theorem g1Type : (Tryd.prog.globals[3]?).map (·.type) = some 146 := by kernel_rfl
theorem g2Type : (Tryd.prog.globals[4]?).map (·.type) = some 146 := by kernel_rfl
theorem cells94 : Tryd.prog.cellsOf 156 = 20 := by kernel_rfl
theorem cells22 : Tryd.prog.cellsOf 22 = 1 := by kernel_rfl
theorem cells115 : Tryd.prog.cellsOf 177 = 1 := by kernel_rfl
theorem cells9 : Tryd.prog.cellsOf 9 = 1 := by kernel_rfl
theorem star : "*" ++ "errors.errorString" = "*errors.errorString" := by decide
theorem row113 (u : TypeId) (h : Tryd.prog.typeName? 3 u = some "*errors.errorString") : u = 175 :=
  typeName_ptr_named (nm := "errors.errorString") (by rw [star]; kernel_rfl) (by kernel_rfl) (by decide) u (by rw [star]; exact h)
theorem powList : [1, 10, 100, 1000, 10000, 100000, 1000000, 10000000, 100000000, 1000000000, 10000000000, 100000000000, 1000000000000, 10000000000000, 100000000000000, 1000000000000000, 10000000000000000, 100000000000000000, 1000000000000000000, 10000000000000000000] = Lib.pow10Tab := by decide

/-- the rows' list gives what the calls read. -/
theorem lay_of {W : World} (h : laidMetH Tryd.prog [("math/bits.deBruijn32tab", Rows.laid_math_bits_deBruijn32tab), ("math/bits.deBruijn64tab", Rows.laid_math_bits_deBruijn64tab), ("internal/strconv.uint64pow10", Rows.laid_internal_strconv_uint64pow10), ("strconv.ErrRange", Rows.laid_strconv_ErrRange), ("strconv.ErrSyntax", Rows.laid_strconv_ErrSyntax)] W) : LayE W := by
  have h0 : laidMet Tryd.prog [("math/bits.deBruijn32tab", Rows.laid_math_bits_deBruijn32tab), ("math/bits.deBruijn64tab", Rows.laid_math_bits_deBruijn64tab), ("internal/strconv.uint64pow10", Rows.laid_internal_strconv_uint64pow10), ("strconv.ErrRange", Rows.laid_strconv_ErrRange), ("strconv.ErrSyntax", Rows.laid_strconv_ErrSyntax)] W := h
  have h1 := h0.tail.tail
  refine ⟨⟨?_⟩, ?_, ?_⟩
  · rw [← powList]
    exact Lib.tabIs_of_head g0 g0Type Tryd.underlying156 Tryd.underlying22 cells22 cells94 h1
  · obtain ⟨a, s, hv, _⟩ := laid_sentinel h1.tail.tail g1 g1Type Tryd.underlying146 row113 Tryd.underlying175 Tryd.underlying177 rfl rfl Tryd.underlying9 cells115 cells9
    exact ⟨_, _, hv⟩
  · obtain ⟨a, s, hv, _⟩ := laid_sentinel h1.tail g2 g2Type Tryd.underlying146 row113 Tryd.underlying175 Tryd.underlying177 rfl rfl Tryd.underlying9 cells115 cells9
    exact ⟨_, _, hv⟩

theorem max_cell (w : World) (h : w.ShapedOpen Tryd.prog) : ∃ m, w.cell? ⟨2, 0, none⟩ = some (.int .i64 m) :=
  Go.Proofs.cell_of_shapedOpen_int (zero := #[.int .i64 0]) (t := 3) h (of_decide_eq_true (by kernel_rfl)) (by kernel_rfl) rfl (by kernel_rfl) (by kernel_rfl) Tryd.underlying3
/-- a world in which the variables lie so. -/
noncomputable def low : Nat := (World.holding Tryd.prog default ⟨#[], #[], []⟩).heap.size
def putAt (cs : Array Value) : Obj → Obj
  | .cells _ t frozen => .cells cs t frozen
  | o => o
noncomputable def laidWorld (os : Os) : World :=
  { World.holding Tryd.prog os ⟨#[.cells #[.string ⟨#[118, 97, 108, 117, 101, 32, 111, 117, 116, 32, 111, 102, 32, 114, 97, 110, 103, 101]⟩] 177, .cells #[.string ⟨#[105, 110, 118, 97, 108, 105, 100, 32, 115, 121, 110, 116, 97, 120]⟩] 177], #[], []⟩ with
    heap := ((((((World.holding Tryd.prog os ⟨#[.cells #[.string ⟨#[118, 97, 108, 117, 101, 32, 111, 117, 116, 32, 111, 102, 32, 114, 97, 110, 103, 101]⟩] 177, .cells #[.string ⟨#[105, 110, 118, 97, 108, 105, 100, 32, 115, 121, 110, 116, 97, 120]⟩] 177], #[], []⟩).heap.modify 1 (putAt (Lib.pow10Tab.map fun z => Value.int .u64 z).toArray)).modify 3 (putAt #[.iface 175 (.pointer (some ⟨low + 1, 0, none⟩))])).modify 4 (putAt #[.iface 175 (.pointer (some ⟨low, 0, none⟩))])).modify 5
      (putAt (([0, 1, 28, 2, 29, 14, 24, 3, 30, 22, 20, 15, 25, 17, 4, 8, 31, 27, 13, 23, 21, 19, 16, 7, 26, 12, 18, 6, 11, 5, 10, 9] : List Int).map fun z => Value.int .u8 z).toArray)).modify 6
      (putAt (([0, 1, 56, 2, 57, 49, 28, 3, 61, 58, 42, 50, 38, 29, 17, 4, 62, 47, 59, 36, 45, 43, 51, 22, 53, 39, 33, 30, 24, 18, 12, 5, 63, 55, 48, 27, 60, 41, 37, 16, 46, 35, 44, 21, 52, 32, 23, 11, 54, 26, 40, 15, 34, 20, 31, 10, 25, 14, 19, 9, 13, 8, 7, 6] : List Int).map fun z => Value.int .u8 z).toArray)).modify 0
      (putAt (([0, 498536548, 997073096, 651767980, 1994146192, 1802195444, 1303535960, 1342533948, 3988292384, 4027552580, 3604390888, 3412177804, 2607071920, 2262029012, 2685067896, 3183342108] : List Int).map fun z => Value.int .u32 z).toArray) }

section
variable {H : Type} {enc : TypeId × Value → H} {W : World} {base b0 : Nat} {spare : Nat → Bool} {held : Bool} {r : Reach}
end
end Go.Proofs.YtacdjioieclggaaDoor
namespace Go.Proofs.YtacdjioieclggaaDoor
open Go.ChangeShapes Go.WideShapes Go.ChangeAt Go.RowKit Go.Joins Go.Deep
set_option linter.unusedVariables false
section
variable {H : Type} {enc : TypeId × Value → H} {W : World} {base b0 : Nat} {spare : Nat → Bool} {held : Bool} {r : Reach}
set_option maxRecDepth 100000 in
theorem open_bytes {v : Value} {d : DataW H} {p : List MemPlace} (hv : Value.okWide Tryd.prog W r b0 31 v) (h : DataW.Trod enc Tryd.prog W base spare held 31 v d p) :
    ∃ q cap l, v = .slice q (l : List UInt8).length cap ∧ Sg W q cap l ∧ (l = [] ∨ ∃ elems rest, d = .slice elems rest ∧ l.length ≤ elems.length) ∧ l.length ≤ cap ∧ cap < 9223372036854775808 := by
  obtain ⟨a0, len0, cap0, rfl⟩ := okWide_slice (P := Tryd.prog) Tryd.underlying31 hv
  obtain ⟨fuel, hf⟩ := h
  rcases open_ints Tryd.underlying31 Tryd.underlying5 (by kernel_rfl) hf with ⟨hcs, _⟩ | ⟨x, l, c, zs, hcs, _, hl, hm, hz, hd, hcell, hwz⟩
  · simp [Value.cells] at hcs
    obtain ⟨rfl, rfl, rfl⟩ := hcs
    exact ⟨none, 0, [], rfl, ⟨fun i hi => by simp at hi, fun _ => ⟨rfl, rfl⟩⟩, Or.inl rfl, by simp, by decide⟩
  · simp [Value.cells] at hcs
    obtain ⟨rfl, rfl, rfl⟩ := hcs
    have hz' : len0 ≤ zs.length := by
      have h9 : zs.length = if spare x.block = true then cap0 else len0 := by simpa using hz
      rw [h9]
      split <;> omega
    have hln : ((zs.take len0).map (fun z => UInt8.ofNat z.toNat)).length = len0 := by simp; omega
    refine ⟨some x, cap0, (zs.take len0).map (fun z => UInt8.ofNat z.toNat), by rw [hln], ⟨?_, fun h => by cases h⟩, Or.inr ⟨_, _, congrArg Prod.fst hd, by simp [lits]⟩, by omega, by unfold maxLen at hm; omega⟩
    intro i hi
    have hi' : i < len0 := by omega
    obtain ⟨b, off, spot⟩ := x
    have hc := hcell 0 (by omega)
    have hspot : spot = none := by simpa [Addr.add] using World.cell?_spot hc
    subst hspot
    refine ⟨b, off, rfl, ?_⟩
    have h2 := hcell i (by omega)
    rw [Addr.add_mid] at h2
    rw [h2]
    have e3 : zs.getD i 0 = zs[i] := by simp [List.getD, show i < zs.length by omega]
    have h4 := bounds_u8 (hwz _ (List.getElem_mem (show i < zs.length by omega)))
    rw [e3]
    have e5 : ((zs.take len0).map (fun z => UInt8.ofNat z.toNat))[i] = UInt8.ofNat zs[i].toNat := by simp
    rw [e5]
    simp
    omega
theorem bytes5 : Tryd.prog.bytesOf 5 = 1 := by kernel_rfl

set_option maxRecDepth 100000 in
theorem len_bytes {ts : List TypeId} {ds : List (DataW H)} (h : (DataW.weightsEach Tryd.prog ts ds).all (· ≤ reachBytes) = true) (j : Nat) (ht : ts[j]? = some 31) {d : DataW H} (hd : ds[j]? = some d) {l : List UInt8}
    (hx : l = [] ∨ ∃ elems rest, d = .slice elems rest ∧ l.length ≤ elems.length) : l.length ≤ 140737488351232 := by
  rcases hx with rfl | ⟨elems, rest, rfl, hl⟩
  · simp
  · have := sized_slice h ht hd Tryd.underlying31
    rw [bytes5] at this
    unfold reachBytes at this
    omega
end
end Go.Proofs.YtacdjioieclggaaDoor
