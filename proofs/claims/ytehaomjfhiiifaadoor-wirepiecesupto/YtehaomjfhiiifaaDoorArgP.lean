/-
  Pieces that came in, with their bound.
-/
import Derived.Test.YtehaomjfhiiifaaDoorArgX
import Derived.Test.YtehaomjfhiiifaaDoorWpC
import Derived.Deep.Matrix
import Derived.Deep.Grids
namespace Go.Proofs.YtehaomjfhiiifaaDoor
open Go.ChangeShapes Go.WideShapes Go.ChangeAt Go.RowKit Go.Joins Go.Deep Crc
set_option linter.unusedVariables false

section
variable {H : Type} {enc : TypeId × Value → H} {W : World} {base b0 : Nat} {held : Bool} {r : Reach}
theorem cells22 : Tryd.prog.cellsOf 22 = 1 := by kernel_rfl
theorem bulk_lits (k : IntKind) : ∀ zs : List Int, Rows.uptoBulkAll (H := H) (lits k zs) = zs.length
  | [] => by simp [lits, Rows.uptoBulkAll]
  | z :: zs => by
    have := bulk_lits k zs
    unfold lits at this ⊢
    rw [List.map_cons, Rows.uptoBulkAll, Rows.uptoBulk, this]
    · simp; omega
    all_goals (intro _ h; cases h)
theorem bulk_map (f : Nat → Nat) (D : Nat → DataW H) : ∀ l : List Nat, (∀ r ∈ l, f r + 1 ≤ Rows.uptoBulk (D r)) → (l.map f).sum + l.length ≤ Rows.uptoBulkAll (l.map D)
  | [], _ => by simp [Rows.uptoBulkAll]
  | a :: l, h => by
    have h1 := bulk_map f D l (fun r hr => h r (List.mem_cons_of_mem _ hr))
    have h2 := h a (List.mem_cons_self ..)
    rw [List.map_cons, List.map_cons, Rows.uptoBulkAll, List.sum_cons, List.length_cons]
    omega
theorem bulk_row (A : Option Addr) (L : Nat) (zs : List Int) (hl : L ≤ zs.length) (h0 : A = none → L = 0) : L + 1 ≤ Rows.uptoBulk (intRow (H := H) .u8 A L zs) := by
  cases A with
  | none => simp [h0 rfl, intRow, Rows.uptoBulk]
  | some a =>
    unfold intRow
    simp only [Rows.uptoBulk, bulk_lits]
    simp
    omega
def nums (L : Nat) (zs : List Int) : List Nat := (zs.take L).map Int.toNat
theorem nums_len (L : Nat) (zs : List Int) (h : L ≤ zs.length) : (nums L zs).length = L := by simp [nums]; omega
theorem open_pieces {v : Value} {d : DataW H} {p : List MemPlace} (hv : Value.okWide Tryd.prog W r b0 57 v) (h : DataW.Trod enc Tryd.prog W base (fun _ => true) held 57 v d p) :
    ∃ q cap PS, v = .slice q (PS : List (List Nat)).length cap ∧ Pcs W q PS ∧ (∀ xs ∈ PS, Oct xs) ∧ tot PS + PS.length ≤ Rows.uptoBulk d := by
  obtain ⟨a0, len0, cap0, rfl⟩ := okWide_slice Tryd.underlying57 hv
  obtain ⟨fuel, hf⟩ := h
  rcases open_int_rows Tryd.underlying57 Tryd.underlying22 Tryd.underlying5 cells22 cells5 hf with ⟨hcs, _⟩ | ⟨a, len, cap, A, L, C, Z, hcs, _, hl, hm, hx, hr⟩
  · simp [Value.cells] at hcs
    obtain ⟨rfl, rfl, rfl⟩ := hcs
    exact ⟨none, 0, [], rfl, fun i hi => by simp at hi, fun x hx => by simp at hx, by simp [tot]⟩
  · simp [Value.cells] at hcs
    obtain ⟨rfl, rfl, rfl⟩ := hcs
    have hd : d = _ := congrArg Prod.fst hx
    have ln : ∀ i, i < len0 → (nums (L i) (Z i)).length = L i := fun i hi => by
      obtain ⟨_, r1, _, r3, _⟩ := hr i (by omega)
      exact nums_len _ _ (by omega)
    refine ⟨some a, cap0, (List.range len0).map fun i => nums (L i) (Z i), by simp, ?_, ?_, ?_⟩
    · intro i hi
      have hi' : i < len0 := by simpa using hi
      obtain ⟨hc, r1, r2, r3, r4, r5, r6⟩ := hr i (by omega)
      have hc0 := (hr 0 (by omega)).1
      obtain ⟨b, off, spot⟩ := a
      have hspot : spot = none := by simpa [Addr.add] using World.cell?_spot hc0
      subst hspot
      refine ⟨b, off, rfl, A i, C i, ?_, r5, ?_⟩
      · rw [Addr.add_mid] at hc
        rw [hc]
        simp [ln i hi']
      · have e1 : ((List.range len0).map fun i => nums (L i) (Z i))[i] = nums (L i) (Z i) := by simp
        rw [e1]
        cases hA : A i with
        | none =>
          left
          refine ⟨List.length_eq_zero_iff.1 ?_, rfl⟩
          rw [ln i hi']
          have := r5 hA
          omega
        | some a' =>
          right
          refine ⟨a', rfl, ?_⟩
          intro j v hj
          have hj1 := (List.getElem?_eq_some_iff.1 hj).1
          rw [bv_len, ln i hi'] at hj1
          rw [(r6 a' hA).2 j (by omega), ← hj, bv_get _ j (by rw [ln i hi']; exact hj1)]
          have hz : j < (Z i).length := by omega
          obtain ⟨n, en, _⟩ := nat_u8 (r4 _ (List.getElem_mem hz))
          simp [nums, hz]
          omega
    · intro xs hxs
      simp only [List.mem_map, List.mem_range] at hxs
      obtain ⟨i, hi, rfl⟩ := hxs
      obtain ⟨_, _, _, _, r4, _⟩ := hr i (by omega)
      intro y hy
      simp only [nums, List.mem_map] at hy
      obtain ⟨z, hz1, rfl⟩ := hy
      obtain ⟨n, rfl, h256⟩ := nat_u8 (r4 _ (List.mem_of_mem_take hz1))
      simpa using h256
    · rw [hd]
      simp only [Rows.uptoBulk]
      have hb := bulk_map L (fun r => intRow (H := H) .u8 (A r) (L r) (Z r)) (List.range len0) (fun r hrr => by
        have hr' := List.mem_range.1 hrr
        obtain ⟨_, r1, _, r3, _, r5, _⟩ := hr r (by omega)
        exact bulk_row _ _ _ (by omega) (fun h => by have := r5 h; omega))
      have ht : tot ((List.range len0).map fun i => nums (L i) (Z i)) = ((List.range len0).map L).sum := by
        unfold tot
        rw [List.map_map]
        congr 1
        exact List.map_congr_left fun i hi => ln i (List.mem_range.1 hi)
      rw [ht, List.length_map]
      omega
theorem cells4 : Tryd.prog.cellsOf 4 = 1 := by kernel_rfl
theorem open_asks {v : Value} {d : DataW H} {p : List MemPlace} (hv : Value.okWide Tryd.prog W r b0 58 v) (h : DataW.Trod enc Tryd.prog W base (fun _ => true) held 58 v d p) :
    ∃ q cap l, v = .slice q (l : List Bool).length cap ∧ Aks W q l ∧ l.length < 9223372036854775808 := by
  obtain ⟨a0, len0, cap0, rfl⟩ := okWide_slice Tryd.underlying58 hv
  obtain ⟨fuel, hf⟩ := h
  rcases open_bools Tryd.underlying58 Tryd.underlying4 cells4 hf with ⟨hcs, _⟩ | ⟨x, len, cap, B, hcs, _, hl, hm, _, hcell⟩
  · simp [Value.cells] at hcs
    obtain ⟨rfl, rfl, rfl⟩ := hcs
    exact ⟨none, 0, [], rfl, fun i hi => by simp at hi, by simp⟩
  · simp [Value.cells] at hcs
    obtain ⟨rfl, rfl, rfl⟩ := hcs
    refine ⟨some x, cap0, (List.range len0).map B, by simp, fun i hi => ?_, ?_⟩
    · have hi' : i < len0 := by simpa using hi
      obtain ⟨b, off, spot⟩ := x
      have hc := hcell i (by omega)
      have hc1 := hcell 0 (by omega)
      have hspot : spot = none := by simpa [Addr.add] using World.cell?_spot hc1
      subst hspot
      rw [Addr.add_mid] at hc
      exact ⟨b, off, rfl, by simpa using hc⟩
    · unfold maxLen at hm
      simp
      omega
end
end Go.Proofs.YtehaomjfhiiifaaDoor
