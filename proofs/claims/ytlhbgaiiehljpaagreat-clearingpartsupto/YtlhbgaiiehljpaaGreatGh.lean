/-
  BigM
-/
import Derived.Test.YtlhbgaiiehljpaaGreatGt
import Derived.WalkLawsBesides
import Derived.Deep.QuietTactic
import Derived.BigQuiet
import Derived.RangeFuncRecord

namespace Go.Proofs.YtlhbgaiiehljpaaGreat.BigM
def val : List Int → Int
  | [] => 0
  | d :: r => d + 4294967296 * val r
def Dig (l : List Int) : Prop := ∀ d, d ∈ l → 0 ≤ d ∧ d < 4294967296
/-- digit k, 0 beyond the list. -/
def at0 (l : List Int) (k : Nat) : Int := l[k]?.getD 0
def Trm (l : List Int) : Prop := 0 < l.length → at0 l (l.length - 1) ≠ 0
/-- the powers of the base. -/
def pw (k : Nat) : Int := 4294967296 ^ k
theorem Dig.take {l : List Int} (h : Dig l) (k : Nat) : Dig (l.take k) := fun d hd => h d (List.mem_of_mem_take hd)
end Go.Proofs.YtlhbgaiiehljpaaGreat.BigM
namespace Go.Proofs.YtlhbgaiiehljpaaGreat
open Go.RowKit BigM
set_option linter.unusedVariables false
/-- the digits at an address, in a world. -/
def CellsAt (w : World) (b o : Nat) (ds : List Int) : Prop := (∃ cur, w.heap[b]? = some (.cells cur 36 (0, 0))) ∧ ∀ j, j < ds.length → w.cell? ⟨b, o + j, none⟩ = some (.int .u32 (at0 ds j))
/-- a slice reads as these digits. -/
def Rd (w : World) (v : Value) (ds : List Int) : Prop :=
  (v = .slice none 0 0 ∧ ds = []) ∨ ∃ b o cap, v = .slice (some ⟨b, o, none⟩) ds.length cap ∧ ds.length ≤ cap ∧ cap ≤ maxLen ∧ CellsAt w b o ds
/-- a slice is the whole number n. -/
def Bn (w : World) (v : Value) (n : Int) : Prop := ∃ ds, Rd w v ds ∧ Dig ds ∧ Trm ds ∧ val ds = n
theorem CellsAt.lt {w : World} {b o : Nat} {ds : List Int} (h : CellsAt w b o ds) : b < w.heap.size := by
  obtain ⟨⟨cur, e⟩, _⟩ := h
  exact (Array.getElem?_eq_some_iff.1 e).1
theorem CellsAt.below {w w' : World} {B b o : Nat} {ds : List Int} (h : CellsAt w b o ds) (hb : Below B w w') (hB : w.heap.size ≤ B) : CellsAt w' b o ds := by
  have hl := h.lt
  obtain ⟨⟨cur, e⟩, h2⟩ := h
  exact ⟨⟨cur, (hb.block b (by omega)).trans e⟩, fun j hj => (hb.cell (p := ⟨b, o + j, none⟩) (by show b < B; omega)).trans (h2 j hj)⟩
theorem Rd.below {w w' : World} {B : Nat} {v : Value} {ds : List Int} (h : Rd w v ds) (hb : Below B w w') (hB : w.heap.size ≤ B) : Rd w' v ds := by
  rcases h with h | ⟨b, o, cap, h1, h2, h3, h4⟩
  · exact .inl h
  · exact .inr ⟨b, o, cap, h1, h2, h3, h4.below hb hB⟩
theorem Bn.below {w w' : World} {B : Nat} {v : Value} {n : Int} (h : Bn w v n) (hb : Below B w w') (hB : w.heap.size ≤ B) : Bn w' v n := by
  obtain ⟨ds, h1, h2⟩ := h
  exact ⟨ds, h1.below hb hB, h2⟩
theorem Bn.to {w w' : World} {v : Value} {n : Int} (h : Bn w v n) (hb : Below w.heap.size w w') : Bn w' v n := h.below hb (Nat.le_refl _)
end Go.Proofs.YtlhbgaiiehljpaaGreat
