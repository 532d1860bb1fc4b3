/-
  Tags that came in, with their bounds.
-/
import Derived.Test.YtcokggeodbipjaaDoorArgs
import Derived.Test.YtcokggeodbipjaaDoorTxF
import Derived.Deep.Slices
import Derived.Deep.Strs
namespace Go.Proofs.YtcokggeodbipjaaDoor
open Go.ChangeShapes Go.WideShapes Go.ChangeAt Go.RowKit Go.Joins Go.Deep
set_option linter.unusedVariables false

section
variable {H : Type} {enc : TypeId × Value → H} {W : World} {base b0 : Nat} {held : Bool} {r : Reach}
/-- what one tag reads as. -/
def tagD (x : Int × List UInt8) : DataW H := .agg [.lit (.int .i64 x.1), .lit (.string x.2)]
set_option maxRecDepth 100000 in
theorem one_tag {n : Nat} {cs : List Value} {y : DataW H × List MemPlace} (hf : DataW.trod enc Tryd.prog W base (fun _ => true) held n 28 cs = some y) :
    ∃ z : Int × List UInt8, cs = [.int .i64 z.1, .string ⟨z.2.toArray⟩] ∧ y.1 = tagD z := by
  obtain ⟨y0, y1, m, hx, hl, h0, h1⟩ := trod_struct2 Tryd.underlying28 hf
  rw [cells28] at hl
  match cs, hl with
  | [c0, c1], _ =>
    simp only [cells3, cells9, List.drop_zero, List.take_succ_cons, List.take_zero, List.drop_succ_cons] at h0 h1
    obtain ⟨kd, e0, f0, _⟩ := DataW.trod_int Tryd.underlying3 h0
    obtain ⟨s, e1, f1, _⟩ := DataW.trod_string Tryd.underlying9 h1
    obtain rfl : c0 = .int .i64 kd := by simpa using e0
    obtain rfl : c1 = .string s := by simpa using e1
    obtain ⟨t, rfl⟩ := ba_of s
    refine ⟨(kd, t), rfl, ?_⟩
    subst hx f0 f1
    rfl
set_option maxRecDepth 100000 in
/-- a list of tags that came in. -/
theorem open_tags {v : Value} {d : DataW H} {p : List MemPlace} (hv : Value.okWide Tryd.prog W r b0 29 v) (h : DataW.Trod enc Tryd.prog W base (fun _ => true) held 29 v d p) :
    ∃ q cap l, v = .slice q (l : List (Int × List UInt8)).length cap ∧ Tg W q cap l ∧ (l = [] ∨ ∃ spare, d = .slice (l.map tagD) spare) ∧ l.length ≤ cap ∧ cap < 9223372036854775808 := by
  obtain ⟨a0, len0, cap0, rfl⟩ := okWide_slice (P := Tryd.prog) Tryd.underlying29 hv
  obtain ⟨fuel, hf⟩ := h
  rcases open_slice Tryd.underlying29 hf with ⟨hcs, _⟩ | ⟨a, len, cap, m, n, D, Pl, hcs, _, hl, hm, hmm, hx, hr⟩
  · simp [Value.cells] at hcs
    obtain ⟨rfl, rfl, rfl⟩ := hcs
    exact ⟨none, 0, [], rfl, ⟨(fun i hi => by simp at hi), fun _ => ⟨rfl, rfl⟩⟩, Or.inl rfl, by simp, by decide⟩
  · simp [Value.cells] at hcs
    obtain ⟨rfl, rfl, rfl⟩ := hcs
    simp only [if_true] at hmm
    subst hmm
    have hd : d = _ := congrArg Prod.fst hx
    rw [cells28] at hr
    obtain ⟨Z, hZ⟩ := choose_lt (α := Int × List UInt8) (p := fun i z => W.cells? base (a.add (i * 2)) 2 = some [.int .i64 z.1, .string ⟨z.2.toArray⟩] ∧ D i = tagD z) (n := m) (fun i hi => by
      obtain ⟨cs', h1, h2⟩ := hr i hi
      obtain ⟨z, rfl, h3⟩ := one_tag h2
      exact ⟨z, h1, h3⟩)
    refine ⟨some a, m, (List.range len0).map Z, by simp, ⟨?_, fun h => by cases h⟩, Or.inr ?_, by simp; omega, by unfold maxLen at hm; omega⟩
    · intro i hi
      have hi' : i < len0 := by simpa using hi
      obtain ⟨hc, _⟩ := hZ i (by omega)
      obtain ⟨hc0, _⟩ := hZ 0 (by omega)
      obtain ⟨_, _, hcc0⟩ := World.cells?_some hc0
      obtain ⟨_, _, hcc⟩ := World.cells?_some hc
      have e1 : ((List.range len0).map Z)[i] = Z i := by simp
      rw [e1]
      obtain ⟨b, off, spot⟩ := a
      have hspot : spot = none := by
        have := hcc0 0 (by omega)
        simpa [Addr.add] using World.cell?_spot this
      subst hspot
      have g0 := hcc 0 (by omega)
      have g1 := hcc 1 (by omega)
      rw [Addr.add_mid, Addr.add_mid] at g0 g1
      exact ⟨b, off, rfl, g0, g1⟩
    · rw [hd]
      exact ⟨_, congrArg (fun z => DataW.slice z _) (by
        rw [List.map_map]
        refine List.map_congr_left fun i hi => ?_
        exact (hZ i (by have := List.mem_range.1 hi; omega)).2)⟩
theorem weights_all {e : TypeId} {d : DataW H} {n : Nat} (hn : n ∈ d.weights Tryd.prog e) : ∀ {ds : List (DataW H)}, d ∈ ds → n ∈ DataW.weightsAll Tryd.prog e ds
  | x :: ds, hd => by
    simp only [DataW.weightsAll, List.mem_append]
    rcases List.mem_cons.1 hd with rfl | hd
    · exact Or.inl hn
    · exact Or.inr (weights_all hn hd)
theorem bytes28 : Tryd.prog.bytesOf 28 = 24 := by kernel_rfl
set_option maxRecDepth 100000 in
/-- the bounds that the rows' form gives. -/
theorem len_tags {ts : List TypeId} {ds : List (DataW H)} (h : (DataW.weightsEach Tryd.prog ts ds).all (· ≤ reachBytes) = true) (j : Nat) (ht : ts[j]? = some 29) {d : DataW H} (hd : ds[j]? = some d) {l : List (Int × List UInt8)}
    (hx : l = [] ∨ ∃ spare, d = .slice (l.map tagD) spare) : l.length * 24 ≤ 140737488351232 ∧ ∀ x ∈ l, x.2.length ≤ 140737488351232 := by
  rcases hx with rfl | ⟨spare, rfl⟩
  · simp
  · refine ⟨?_, ?_⟩
    · have := sized_slice h ht hd Tryd.underlying29
      rw [bytes28] at this
      unfold reachBytes at this
      simp at this
      omega
    · intro x hx
      have hm : x.2.length ∈ (DataW.slice (l.map (tagD (H := H))) spare).weights Tryd.prog 29 := by
        simp only [DataW.weights, Tryd.underlying29, List.mem_cons, List.mem_append]
        right; left
        refine weights_all (d := tagD x) ?_ (List.mem_map_of_mem hx)
        simp only [tagD, DataW.weights, Tryd.underlying28]
        simp [DataW.weightsEach, DataW.weights]
      have := List.all_eq_true.1 h _ (DataW.weights_mem_each ht hd _ hm)
      unfold reachBytes at this
      simpa using this
theorem bulk_tags : ∀ l : List (Int × List UInt8), (l.map fun x => x.2.length + 3).sum ≤ Rows.uptoBulkAll (H := H) (l.map tagD)
  | [] => by simp [Rows.uptoBulkAll]
  | x :: l => by
    have := bulk_tags l
    rw [List.map_cons, List.map_cons, List.sum_cons, Rows.uptoBulkAll]
    have e : Rows.uptoBulk (tagD (H := H) x) = x.2.length + 1 + 1 + 1 := by
      simp [tagD, Rows.uptoBulk, Rows.uptoBulkAll]; omega
    omega
end
end Go.Proofs.YtcokggeodbipjaaDoor
