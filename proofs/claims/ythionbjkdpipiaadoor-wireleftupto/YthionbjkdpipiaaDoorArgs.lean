/-
  What came in: frames, bytes; the table.
-/
import Derived.Test.YthionbjkdpipiaaDoorBack
import Derived.Test.YthionbjkdpipiaaDoorCards
import Derived.Test.YthionbjkdpipiaaDoorTie
import Derived.ProofKit
import Derived.OpenShut
import Derived.ShutString
import Derived.ChangeOld
import Derived.Below
import Derived.Lib.SmallJoins
import Derived.Deep.DeepHandedRow
import Derived.Lib.LaidTab
namespace Go.Proofs.YthionbjkdpipiaaDoor
open Go.ChangeShapes Go.WideShapes Go.ChangeAt Go.RowKit Go.Joins Crc
set_option linter.unusedVariables false

theorem own : ownKnob Tryd.prog.godebug = none := by kernel_rfl
theorem laidOut : laidOutB Tryd.prog = true := by kernel_rfl
theorem gTab : Tryd.prog.globalNamed "bourse/wire.sumSteps" = some 0 := by kernel_rfl
theorem gTabType : (Tryd.prog.globals[0]?).map (·.type) = some 65 := by kernel_rfl
theorem cells65 : Tryd.prog.cellsOf 65 = 16 := by kernel_rfl
theorem cells24 : Tryd.prog.cellsOf 24 = 1 := by kernel_rfl
theorem cells31 : Tryd.prog.cellsOf 31 = 8 := by kernel_rfl
theorem cells29 : Tryd.prog.cellsOf 29 = 7 := by kernel_rfl
theorem cells28 : Tryd.prog.cellsOf 28 = 1 := by kernel_rfl
theorem cells5 : Tryd.prog.cellsOf 5 = 1 := by kernel_rfl

/-- the rows' list gives the table. -/
theorem laid_of {W : World} (h : laidMetH Tryd.prog [("bourse/wire.sumSteps", Rows.laid_bourse_wire_sumSteps)] W) : Laid W := by
  have ht : Lib.TabIs Tryd.prog W "bourse/wire.sumSteps" .u32 [0, 498536548, 997073096, 651767980, 1994146192, 1802195444, 1303535960, 1342533948, 3988292384, 4027552580, 3604390888, 3412177804, 2607071920, 2262029012, 2685067896, 3183342108] :=
    Lib.tabIs_of_head (rest := []) gTab gTabType Tryd.underlying65 Tryd.underlying24 cells24 cells65 h
  intro k hk
  have hc := ht.cell gTab k (by simpa using hk)
  rw [hc]
  have : k = 0 ∨ k = 1 ∨ k = 2 ∨ k = 3 ∨ k = 4 ∨ k = 5 ∨ k = 6 ∨ k = 7 ∨ k = 8 ∨ k = 9 ∨ k = 10 ∨ k = 11 ∨ k = 12 ∨ k = 13 ∨ k = 14 ∨ k = 15 := by omega
  rcases this with rfl | rfl | rfl | rfl | rfl | rfl | rfl | rfl | rfl | rfl | rfl | rfl | rfl | rfl | rfl | rfl <;> rfl

section
variable {H : Type} {enc : TypeId × Value → H} {W : World} {base b0 : Nat} {spare : Nat → Bool} {held : Bool} {r : Reach}
theorem nat_u8 {a : Int} (h : (Lit.int .u8 a).wf = true) : ∃ n : Nat, a = (n : Int) ∧ n < 256 := by
  have h1 : IntKind.u8.min ≤ a ∧ a ≤ IntKind.u8.max := by simpa [Lit.wf] using h
  have e1 : IntKind.u8.min = 0 := by decide
  have e2 : IntKind.u8.max = 255 := by decide
  exact ⟨a.toNat, by omega, by omega⟩
theorem nat_u64 {a : Int} (h : (Lit.int .u64 a).wf = true) : ∃ n : Nat, a = (n : Int) ∧ n < 18446744073709551616 := by
  have := bounds_u64 h
  exact ⟨a.toNat, by omega, by omega⟩
theorem nat_u32 {a : Int} (h : (Lit.int .u32 a).wf = true) : ∃ n : Nat, a = (n : Int) ∧ n < 4294967296 := by
  have h1 : IntKind.u32.min ≤ a ∧ a ≤ IntKind.u32.max := by simpa [Lit.wf] using h
  have e1 : IntKind.u32.min = 0 := by decide
  have e2 : IntKind.u32.max = 4294967295 := by decide
  exact ⟨a.toNat, by omega, by omega⟩
/-- a frame that came in. -/
theorem open_frame {v : Value} {d : DataW H} {p : List MemPlace} (hv : Value.okWide Tryd.prog W r b0 31 v) (h : DataW.Trod enc Tryd.prog W base spare held 31 v d p) :
    ∃ k w0 w1 w2 w3 w4 w5 w6 : Nat, v = fv k w0 w1 w2 w3 w4 w5 w6 ∧ k < 256 ∧ ∀ x ∈ [w0, w1, w2, w3, w4, w5, w6], x < 18446744073709551616 := by
  obtain ⟨cs, rfl, hsz⟩ := okWide_struct Tryd.underlying31 hv
  rw [cells31] at hsz
  obtain ⟨fuel, hf⟩ := h
  obtain ⟨y0, y1, n, hx, _, h0, h1⟩ := trod_struct2 Tryd.underlying31 hf
  obtain ⟨l⟩ := cs
  match l, hsz with
  | [c0, c1, c2, c3, c4, c5, c6, c7], _ =>
    simp only [Value.cells, cells5, cells29, List.drop_zero, List.take_succ_cons, List.take_zero, List.drop_succ_cons] at h0 h1
    obtain ⟨k, e0, _, wk⟩ := DataW.trod_int Tryd.underlying5 h0
    obtain ⟨xs, m, _, _, _, hn, hel⟩ := DataW.trod_array Tryd.underlying29 h1
    have g : ∀ i, i < 7 → ∃ n : Nat, (([c1, c2, c3, c4, c5, c6, c7].drop i).take 1) = [.int .u64 ((n : Nat) : Int)] ∧ n < 18446744073709551616 := by
      intro i hi
      have hh := hel i hi
      rw [cells28, List.getElem?_eq_getElem (by omega), Nat.mul_one] at hh
      obtain ⟨a, ea, _, wa⟩ := DataW.trod_int Tryd.underlying28 hh
      obtain ⟨n, rfl, hn⟩ := nat_u64 wa
      exact ⟨n, ea, hn⟩
    obtain ⟨k, rfl, hk⟩ := nat_u8 wk
    obtain ⟨w0, e1, b1⟩ := g 0 (by decide)
    obtain ⟨w1, e2, b2⟩ := g 1 (by decide)
    obtain ⟨w2, e3, b3⟩ := g 2 (by decide)
    obtain ⟨w3, e4, b4⟩ := g 3 (by decide)
    obtain ⟨w4, e5, b5⟩ := g 4 (by decide)
    obtain ⟨w5, e6, b6⟩ := g 5 (by decide)
    obtain ⟨w6, e7, b7⟩ := g 6 (by decide)
    simp at e0 e1 e2 e3 e4 e5 e6 e7
    subst e0 e1 e2 e3 e4 e5 e6 e7
    exact ⟨k, w0, w1, w2, w3, w4, w5, w6, rfl, hk, by simp; omega⟩
/-- bytes that came in. -/
theorem open_bytes {v : Value} {d : DataW H} {p : List MemPlace} (hv : Value.okWide Tryd.prog W r b0 22 v) (h : DataW.Trod enc Tryd.prog W base spare held 22 v d p) :
    ∃ xs : List Nat, xs.length < 9223372036854775808 ∧ Oct xs ∧ Sl W v xs := by
  obtain ⟨a0, len0, cap0, rfl⟩ := okWide_slice Tryd.underlying22 hv
  obtain ⟨fuel, hf⟩ := h
  rcases open_ints Tryd.underlying22 Tryd.underlying5 (by kernel_rfl) hf with ⟨hcs, _⟩ | ⟨x, l, c, zs, hcs, _, hl, hm, hz, _, hcell, hwz⟩
  · simp [Value.cells] at hcs
    obtain ⟨rfl, rfl, rfl⟩ := hcs
    exact ⟨[], by decide, fun x hx => by simp at hx, Or.inl ⟨rfl, none, 0, rfl⟩⟩
  · simp [Value.cells] at hcs
    obtain ⟨rfl, rfl, rfl⟩ := hcs
    have hn : ∀ i, i < zs.length → ∃ n : Nat, zs.getD i 0 = (n : Int) ∧ n < 256 := by
      intro i hi
      have hm : zs.getD i 0 = zs[i] := by simp [List.getD, hi]
      rw [hm]
      exact nat_u8 (hwz _ (List.getElem_mem hi))
    have hz' : len0 ≤ zs.length := by
      have h9 : zs.length = if spare x.block = true then cap0 else len0 := by simpa using hz
      rw [h9]
      split <;> omega
    have hlen : len0 < 9223372036854775808 := by
      have h9 : len0 ≤ maxLen := by omega
      unfold maxLen at h9
      omega
    refine ⟨(zs.take len0).map Int.toNat, by simp; omega, ?_, ?_⟩
    · intro y hy
      simp only [List.mem_map] at hy
      obtain ⟨z, hz1, rfl⟩ := hy
      obtain ⟨n, rfl, h256⟩ := nat_u8 (hwz _ (List.mem_of_mem_take hz1))
      simpa using h256
    · by_cases h0 : len0 = 0
      · subst h0
        exact Or.inl ⟨by simp, _, _, rfl⟩
      · right
        obtain ⟨b, off, spot⟩ := x
        have hc := hcell 0 (by omega)
        have hspot : spot = none := by simpa [Addr.add] using World.cell?_spot hc
        subst hspot
        refine ⟨b, off, cap0, by simp; omega, ?_⟩
        intro i hi
        have hi' : i < len0 := by simp at hi; omega
        have h2 := hcell i (by omega)
        rw [Addr.add_mid] at h2
        rw [h2]
        obtain ⟨n, en, _⟩ := hn i (by omega)
        have e3 : zs.getD i 0 = zs[i] := by simp [List.getD, show i < zs.length by omega]
        simp
        rw [e3] at en
        simp [show i < zs.length by omega]
        omega
end
end Go.Proofs.YthionbjkdpipiaaDoor
