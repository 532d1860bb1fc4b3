/-
  Steps that came in, with their bound.
-/
import Derived.Test.YtffgcdhhjboppaaDoorArgX
import Derived.Test.YtffgcdhhjboppaaDoorReA
import Derived.Deep.Slices
import Derived.Deep.Strs
namespace Go.Proofs.YtffgcdhhjboppaaDoor
open Go.ChangeShapes Go.WideShapes Go.ChangeAt Go.RowKit Go.Joins Go.Deep Crc
set_option linter.unusedVariables false

section
variable {H : Type} {enc : TypeId × Value → H} {W : World} {base b0 : Nat} {held : Bool} {r : Reach}
theorem cells22 : Tryd.prog.cellsOf 22 = 1 := by kernel_rfl
theorem cells3 : Tryd.prog.cellsOf 3 = 1 := by kernel_rfl
theorem cells4 : Tryd.prog.cellsOf 4 = 1 := by kernel_rfl
theorem cells53 : Tryd.prog.cellsOf 53 = 3 := by kernel_rfl
theorem bulk_lits (k : IntKind) : ∀ zs : List Int, Rows.uptoBulkAll (H := H) (lits k zs) = zs.length
  | [] => by simp [lits, Rows.uptoBulkAll]
  | z :: zs => by
    have := bulk_lits k zs
    unfold lits at this ⊢
    rw [List.map_cons, Rows.uptoBulkAll, Rows.uptoBulk, this]
    · simp; omega
    all_goals (intro _ h; cases h)
theorem bulk_map (f : Nat → Nat) (D : Nat → DataW H) : ∀ l : List Nat, (∀ r ∈ l, f r + 1 ≤ Rows.uptoBulk (D r)) → (l.map f).sum + l.length ≤ Rows.uptoBulkAll (l.map D)
  | [], _ => by simp [Rows.uptoBulkAll]
  | a :: l, h => by
    have h1 := bulk_map f D l (fun r hr => h r (List.mem_cons_of_mem _ hr))
    have h2 := h a (List.mem_cons_self ..)
    rw [List.map_cons, List.map_cons, Rows.uptoBulkAll, List.sum_cons, List.length_cons]
    omega
theorem sx_of_trod {n : Nat} {v : Value} {y : DataW H × List MemPlace} (hf : DataW.trod enc Tryd.prog W base (fun _ => true) held n 22 [v] = some y) :
    ∃ q c xs, v = .slice q (xs : List Nat).length c ∧ Sx W v xs ∧ Oct xs ∧ xs.length + 1 ≤ Rows.uptoBulk y.1 := by
  rcases open_ints Tryd.underlying22 Tryd.underlying5 (by kernel_rfl) hf with ⟨hcs, hy⟩ | ⟨x, l, c, zs, hcs, _, hl, hm, hz, hd, hcell, hwz⟩
  · obtain rfl : v = .slice none 0 0 := by simpa using hcs
    subst hy
    exact ⟨none, 0, [], rfl, Or.inl ⟨rfl, rfl⟩, (fun x hx => by simp at hx), by simp [Rows.uptoBulk]⟩
  · obtain rfl : v = .slice (some x) l c := by simpa using hcs
    simp only [if_true] at hz
    subst hd
    refine ⟨some x, c, (zs.take l).map Int.toNat, by simp; omega, ?_, ?_, ?_⟩
    · by_cases h0 : l = 0
      · subst h0
        exact Or.inr (Or.inl ⟨by simp, _, _, rfl⟩)
      · right
        right
        obtain ⟨b, off, spot⟩ := x
        have hc := hcell 0 (by omega)
        have hspot : spot = none := by simpa [Addr.add] using World.cell?_spot hc
        subst hspot
        refine ⟨b, off, c, by simp; omega, ?_⟩
        intro i hi
        have hi' : i < l := by simp at hi; omega
        have h2 := hcell i (by omega)
        rw [Addr.add_mid] at h2
        rw [h2]
        obtain ⟨n, en, _⟩ := nat_u8 (hwz _ (List.getElem_mem (show i < zs.length by omega)))
        simp
        simp [show i < zs.length by omega]
        omega
    · intro y hy
      simp only [List.mem_map] at hy
      obtain ⟨z, hz1, rfl⟩ := hy
      obtain ⟨n, rfl, h256⟩ := nat_u8 (hwz _ (List.mem_of_mem_take hz1))
      simpa using h256
    · simp only [Rows.uptoBulk, bulk_lits]
      simp
theorem one_op {n : Nat} {cs : List Value} {y : DataW H × List MemPlace} (hf : DataW.trod enc Tryd.prog W base (fun _ => true) held n 53 cs = some y) :
    ∃ z : (Int × Bool × List Nat) × Option Addr × Nat, cs = [.int .i64 z.1.1, .bool z.1.2.1, .slice z.2.1 z.1.2.2.length z.2.2] ∧ Sx W (.slice z.2.1 z.1.2.2.length z.2.2) z.1.2.2 ∧ Oct z.1.2.2 ∧ z.1.2.2.length + 1 ≤ Rows.uptoBulk y.1 := by
  obtain ⟨y0, y1, y2, m, rfl, hl, h0, h1, h2⟩ := trod_struct3 Tryd.underlying53 hf
  rw [cells53] at hl
  match cs, hl with
  | [c0, c1, c2], _ =>
    simp only [cells3, cells4, cells22, List.drop_zero, List.take_succ_cons, List.take_zero, List.drop_succ_cons] at h0 h1 h2
    obtain ⟨kd, e0, _, _⟩ := DataW.trod_int Tryd.underlying3 h0
    obtain ⟨ot, e1, _⟩ := DataW.trod_bool Tryd.underlying4 h1
    obtain ⟨q, c, xs, rfl, hS, hO, hB⟩ := sx_of_trod h2
    obtain rfl : c0 = .int .i64 kd := by simpa using e0
    obtain rfl : c1 = .bool ot := by simpa using e1
    refine ⟨((kd, ot, xs), q, c), rfl, hS, hO, ?_⟩
    simp only [Rows.uptoBulk, Rows.uptoBulkAll]
    omega
theorem open_ops {v : Value} {d : DataW H} {p : List MemPlace} (hv : Value.okWide Tryd.prog W r b0 46 v) (h : DataW.Trod enc Tryd.prog W base (fun _ => true) held 46 v d p) :
    ∃ q cap OS, v = .slice q (OS : List (Int × Bool × List Nat)).length cap ∧ Ops W q OS ∧ (∀ x ∈ OS, Oct x.2.2) ∧ totO OS + OS.length ≤ Rows.uptoBulk d := by
  obtain ⟨a0, len0, cap0, rfl⟩ := okWide_slice Tryd.underlying46 hv
  obtain ⟨fuel, hf⟩ := h
  rcases open_slice Tryd.underlying46 hf with ⟨hcs, _⟩ | ⟨a, len, cap, m, n, D, Pl, hcs, _, hl, hm, hmm, hx, hr⟩
  · simp [Value.cells] at hcs
    obtain ⟨rfl, rfl, rfl⟩ := hcs
    exact ⟨none, 0, [], rfl, (fun i hi => by simp at hi), (fun x hx => by simp at hx), by simp [totO]⟩
  · simp [Value.cells] at hcs
    obtain ⟨rfl, rfl, rfl⟩ := hcs
    simp only [if_true] at hmm
    subst hmm
    have hd : d = _ := congrArg Prod.fst hx
    rw [cells53] at hr
    obtain ⟨Z, hZ⟩ := choose_lt (α := (Int × Bool × List Nat) × Option Addr × Nat) (p := fun i z => W.cells? base (a.add (i * 3)) 3 = some [.int .i64 z.1.1, .bool z.1.2.1, .slice z.2.1 z.1.2.2.length z.2.2] ∧ Sx W (.slice z.2.1 z.1.2.2.length z.2.2) z.1.2.2 ∧ Oct z.1.2.2 ∧ z.1.2.2.length + 1 ≤ Rows.uptoBulk (D i)) (n := m) (fun i hi => by
      obtain ⟨cs', h1, h2⟩ := hr i hi
      obtain ⟨z, rfl, h3, h4, h5⟩ := one_op h2
      exact ⟨z, h1, h3, h4, h5⟩)
    refine ⟨some a, m, (List.range len0).map fun i => (Z i).1, by simp, ?_, ?_, ?_⟩
    · intro i hi
      have hi' : i < len0 := by simpa using hi
      obtain ⟨hc, hS, _, _⟩ := hZ i (by omega)
      obtain ⟨hc0, _⟩ := hZ 0 (by omega)
      obtain ⟨_, _, hcc0⟩ := World.cells?_some hc0
      obtain ⟨_, _, hcc⟩ := World.cells?_some hc
      have e1 : ((List.range len0).map fun i => (Z i).1)[i] = (Z i).1 := by simp
      rw [e1]
      obtain ⟨b, off, spot⟩ := a
      have hspot : spot = none := by
        have := hcc0 0 (by omega)
        simpa [Addr.add] using World.cell?_spot this
      subst hspot
      have g0 := hcc 0 (by omega)
      have g1 := hcc 1 (by omega)
      have g2 := hcc 2 (by omega)
      rw [Addr.add_mid, Addr.add_mid] at g0 g1 g2
      exact ⟨b, off, (Z i).2.1, (Z i).2.2, rfl, g0, g1, g2, hS⟩
    · intro x hx
      simp only [List.mem_map, List.mem_range] at hx
      obtain ⟨i, hi, rfl⟩ := hx
      exact (hZ i (by omega)).2.2.1
    · rw [hd]
      simp only [Rows.uptoBulk]
      have hb := bulk_map (fun i => (Z i).1.2.2.length) D (List.range len0) (fun i hi => (hZ i (by have := List.mem_range.1 hi; omega)).2.2.2)
      have ht : totO ((List.range len0).map fun i => (Z i).1) = ((List.range len0).map fun i => (Z i).1.2.2.length).sum := by
        unfold totO
        rw [List.map_map]
        rfl
      rw [ht, List.length_map]
      omega
end
end Go.Proofs.YtffgcdhhjboppaaDoor
