/-
  Pieces that came in, with their bound.
-/
import Derived.Test.YtolabllgnfpfaaaDoorTrH
import Derived.Test.YtolabllgnfpfaaaDoorArgs
import Derived.Deep.Slices
import Derived.Deep.Strs
namespace Go.Proofs.YtolabllgnfpfaaaDoor
open Go.ChangeShapes Go.WideShapes Go.ChangeAt Go.RowKit Go.Joins Go.Deep
set_option linter.unusedVariables false

section
variable {H : Type} {enc : TypeId × Value → H} {W : World} {base b0 : Nat} {held : Bool} {r : Reach}
theorem pc26 : Tryd.prog.cellsOf 26 = 1 := by kernel_rfl
theorem pc3 : Tryd.prog.cellsOf 3 = 1 := by kernel_rfl
theorem pc28 : Tryd.prog.cellsOf 28 = 2 := by kernel_rfl
theorem pb5 : Tryd.prog.bytesOf 5 = 1 := by kernel_rfl
set_option maxRecDepth 100000 in
theorem bytes_of {n : Nat} {v : Value} {y : DataW H × List MemPlace} (hf : DataW.trod enc Tryd.prog W base (fun _ => true) held n 26 [v] = some y) :
    ∃ q cap l, v = .slice q (l : List UInt8).length cap ∧ Sg W q cap l ∧ (l = [] ∨ ∃ elems rest, y.1 = .slice elems rest ∧ l.length ≤ elems.length) := by
  rcases open_ints Tryd.underlying26 Tryd.underlying5 (by kernel_rfl) hf with ⟨hcs, _⟩ | ⟨x, l, c, zs, hcs, _, hl, hm, hz, hd, hcell, hwz⟩
  · obtain rfl : v = .slice none 0 0 := by simpa using hcs
    exact ⟨none, 0, [], rfl, ⟨fun i hi => by simp at hi, fun _ => ⟨rfl, rfl⟩⟩, Or.inl rfl⟩
  · obtain rfl : v = .slice (some x) l c := by simpa using hcs
    have hz' : l ≤ zs.length := by
      simp only [if_true] at hz
      omega
    have hln : ((zs.take l).map (fun z => UInt8.ofNat z.toNat)).length = l := by simp; omega
    refine ⟨some x, c, (zs.take l).map (fun z => UInt8.ofNat z.toNat), by rw [hln], ⟨?_, fun h => by cases h⟩, Or.inr ⟨_, _, congrArg Prod.fst hd, by simp [lits]⟩⟩
    intro i hi
    have hi' : i < l := by omega
    obtain ⟨b, off, spot⟩ := x
    have hc := hcell 0 (by omega)
    have hspot : spot = none := by simpa [Addr.add] using World.cell?_spot hc
    subst hspot
    refine ⟨b, off, rfl, ?_⟩
    have h2 := hcell i (by omega)
    rw [Addr.add_mid] at h2
    rw [h2]
    have e3 : zs.getD i 0 = zs[i] := by simp [List.getD, show i < zs.length by omega]
    have h4 := bounds_u8 (hwz _ (List.getElem_mem (show i < zs.length by omega)))
    rw [e3]
    have e5 : ((zs.take l).map (fun z => UInt8.ofNat z.toNat))[i] = UInt8.ofNat zs[i].toNat := by simp
    rw [e5]
    simp
    omega
set_option maxRecDepth 100000 in
theorem one_pc {n : Nat} {cs : List Value} {y : DataW H × List MemPlace} (hf : DataW.trod enc Tryd.prog W base (fun _ => true) held n 28 cs = some y) (hw : ∀ m ∈ y.1.weights Tryd.prog 28, m ≤ reachBytes) :
    ∃ z : Pc, cs = [.slice z.q z.b.length z.c, .int .i64 z.k] ∧ Sg W z.q z.c z.b ∧ z.b.length ≤ 140737488351232 := by
  obtain ⟨y0, y1, m, rfl, hl, h0, h1⟩ := trod_struct2 Tryd.underlying28 hf
  rw [pc28] at hl
  match cs, hl with
  | [c0, c1], _ =>
    simp only [pc3, pc26, List.drop_zero, List.take_succ_cons, List.take_zero, List.drop_succ_cons] at h0 h1
    obtain ⟨k, e1, _, _⟩ := DataW.trod_int Tryd.underlying3 h1
    obtain ⟨q, c, l, rfl, hS, hB⟩ := bytes_of h0
    obtain rfl : c1 = .int .i64 k := by simpa using e1
    refine ⟨⟨q, c, l, k⟩, rfl, hS, ?_⟩
    rcases hB with rfl | ⟨elems, rest, e, hle⟩
    · simp
    · have := hw ((elems.length + rest.length) * Tryd.prog.bytesOf 5) (by
        simp [DataW.weights, Tryd.underlying28, DataW.weightsEach, e, Tryd.underlying26])
      rw [pb5] at this
      unfold reachBytes at this
      simp only
      omega
theorem weights_in {P : Program} {e : TypeId} {d : DataW H} {n : Nat} (hn : n ∈ d.weights P e) : ∀ {l : List (DataW H)}, d ∈ l → n ∈ DataW.weightsAll P e l
  | a :: l, h => by
    simp only [DataW.weightsAll, List.mem_append]
    rcases List.mem_cons.1 h with rfl | h
    · exact Or.inl hn
    · exact Or.inr (weights_in hn h)
  | [], h => by cases h
set_option maxRecDepth 100000 in
theorem open_pcs {v : Value} {d : DataW H} {p : List MemPlace} (hv : Value.okWide Tryd.prog W r b0 22 v) (h : DataW.Trod enc Tryd.prog W base (fun _ => true) held 22 v d p) (hw : ∀ m ∈ d.weights Tryd.prog 22, m ≤ reachBytes) :
    ∃ q cap ps, v = .slice q (ps : List Pc).length cap ∧ Pcs W q ps ∧ ps.length < 9223372036854775808 := by
  obtain ⟨a0, len0, cap0, rfl⟩ := okWide_slice Tryd.underlying22 hv
  obtain ⟨fuel, hf⟩ := h
  rcases open_slice Tryd.underlying22 hf with ⟨hcs, _⟩ | ⟨a, len, cap, m, n, D, Pl, hcs, _, hl, hm, hmm, hx, hr⟩
  · simp [Value.cells] at hcs
    obtain ⟨rfl, rfl, rfl⟩ := hcs
    exact ⟨none, 0, [], rfl, (fun i hi => by simp at hi), by simp⟩
  · simp [Value.cells] at hcs
    obtain ⟨rfl, rfl, rfl⟩ := hcs
    simp only [if_true] at hmm
    subst hmm
    have hd : d = _ := congrArg Prod.fst hx
    rw [pc28] at hr
    have hwe : ∀ i, i < len0 → ∀ k ∈ (D i).weights Tryd.prog 28, k ≤ reachBytes := fun i hi k hk => by
      refine hw k ?_
      rw [hd]
      simp only [DataW.weights, Tryd.underlying22, List.mem_cons, List.mem_append]
      exact Or.inr (Or.inl (weights_in hk (List.mem_map.2 ⟨i, List.mem_range.2 hi, rfl⟩)))
    haveI : Inhabited Pc := ⟨⟨none, 0, [], 0⟩⟩
    obtain ⟨Z, hZ⟩ := choose_lt (α := Pc) (p := fun i z => W.cells? base (a.add (i * 2)) 2 = some [.slice z.q z.b.length z.c, .int .i64 z.k] ∧ Sg W z.q z.c z.b ∧ z.b.length ≤ 140737488351232) (n := len0) (fun i hi => by
      obtain ⟨cs', h1, h2⟩ := hr i (by omega)
      obtain ⟨z, rfl, h3, h4⟩ := one_pc h2 (hwe i hi)
      exact ⟨z, h1, h3, h4⟩)
    refine ⟨some a, m, (List.range len0).map Z, by simp, ?_, by simp; unfold maxLen at hm; omega⟩
    intro i hi
    have hi' : i < len0 := by simpa using hi
    obtain ⟨hc, hS, hB⟩ := hZ i hi'
    obtain ⟨hc0, _⟩ := hZ 0 (by omega)
    obtain ⟨_, _, hcc0⟩ := World.cells?_some hc0
    obtain ⟨_, _, hcc⟩ := World.cells?_some hc
    have e1 : ((List.range len0).map Z)[i] = Z i := by simp
    rw [e1]
    obtain ⟨b, off, spot⟩ := a
    have hspot : spot = none := by
      have := hcc0 0 (by omega)
      simpa [Addr.add] using World.cell?_spot this
    subst hspot
    have g0 := hcc 0 (by omega)
    have g1 := hcc 1 (by omega)
    rw [Addr.add_mid, Addr.add_mid] at g0 g1
    exact ⟨b, off, rfl, g0, g1, hS, hB⟩
end
end Go.Proofs.YtolabllgnfpfaaaDoor
