/-
  The script that came in.
-/
import Derived.Test.YtiphgfghdbmlcaaFfAr
import Derived.Test.YtiphgfghdbmlcaaFhR
import Derived.ChangeArms
namespace Go.Proofs.Ytiphgfghdbmlcaa
open Go.ChangeShapes Go.WideShapes Go.ChangeAt Go.RowKit Go.Joins Go.Deep
set_option linter.unusedVariables false
set_option linter.unusedSimpArgs false
theorem cellsOp : Try.prog.cellsOf 64 = 11 := by kernel_rfl
theorem cells4 : Try.prog.cellsOf 4 = 1 := by kernel_rfl
theorem cellsPic : Try.prog.cellsOf 30 = 3 := by kernel_rfl
section
variable {H : Type} {enc : TypeId × Value → H} {W : World} {base b0 : Nat} {held : Bool} {r : Reach}
set_option maxRecDepth 100000 in
theorem one_op {n : Nat} {cs : List Value} {y : DataW H × List MemPlace} (hl0 : cs.length = 11) (hf : DataW.trod enc Try.prog W base (fun _ => true) held n 64 cs = some y) (hw : ∀ m ∈ y.1.weights Try.prog 64, m ≤ reachBytes) :
    ∃ z : Ov, cs = [.int .i64 z.kd, .bool z.ot, .int .u64 z.d.sq, .int .i64 z.d.kd, .int .i64 z.d.sd, .int .i64 z.d.pr, .int .u64 z.d.qt, .int .i64 z.d.ct, .int .u64 z.ps, .slice z.b1 z.M1.length z.k1, .slice z.b2 z.M2.length z.k2] ∧ Ok W z := by
  obtain ⟨xs, m, _, hxs, _, hlen, hff⟩ := DataW.trod_struct Try.underlying64 hf
  match cs, hl0 with
  | [c0, c1, c2, c3, c4, c5, c6, c7, c8, c9, c10], _ =>
    have g0 : DataW.trod enc Try.prog W base (fun _ => true) held m 3 (([c0, c1, c2, c3, c4, c5, c6, c7, c8, c9, c10].drop 0).take (Try.prog.cellsOf 3)) = xs[0]? := hff 0 _ rfl
    have g1 : DataW.trod enc Try.prog W base (fun _ => true) held m 4 (([c0, c1, c2, c3, c4, c5, c6, c7, c8, c9, c10].drop 1).take (Try.prog.cellsOf 4)) = xs[1]? := hff 1 _ rfl
    have g2 : DataW.trod enc Try.prog W base (fun _ => true) held m 48 (([c0, c1, c2, c3, c4, c5, c6, c7, c8, c9, c10].drop 2).take (Try.prog.cellsOf 48)) = xs[2]? := hff 2 _ rfl
    have g3 : DataW.trod enc Try.prog W base (fun _ => true) held m 30 (([c0, c1, c2, c3, c4, c5, c6, c7, c8, c9, c10].drop 8).take (Try.prog.cellsOf 30)) = xs[3]? := hff 3 _ rfl
    have hl4 : xs.length = 4 := hlen
    match xs, hl4 with
    | [x0, x1, x2, x3], _ =>
    rw [List.getElem?_eq_getElem (by simp), cells3] at g0
    rw [List.getElem?_eq_getElem (by simp), cells4] at g1
    rw [List.getElem?_eq_getElem (by simp), cellsD] at g2
    rw [List.getElem?_eq_getElem (by simp), cellsPic] at g3
    simp only [List.drop_zero, List.take_succ_cons, List.take_zero, List.drop_succ_cons, List.getElem_cons_zero, List.getElem_cons_succ] at g0 g1 g2 g3
    obtain ⟨a0, e0, _, w0⟩ := DataW.trod_int Try.underlying3 g0
    obtain ⟨a1, e1, _⟩ := DataW.trod_bool Try.underlying4 g1
    obtain ⟨dd, rfl, rfl, rfl, rfl, rfl, rfl, hdd⟩ := open_dm g2
    obtain ⟨y0, y1, y2, m', hy, hl, h0, h1, h2⟩ := trod_struct3 Try.underlying30 g3
    simp only [cellsLs, cellsU, List.drop_zero, List.take_succ_cons, List.take_zero, List.drop_succ_cons] at h0 h1 h2
    obtain ⟨a8, e8, _, w8⟩ := DataW.trod_int Try.underlying27 h0
    obtain ⟨q1, k1, l1, rfl, r1, s1⟩ := levels_of h1
    obtain ⟨q2, k2, l2, rfl, r2, s2⟩ := levels_of h2
    simp at e0 e1 e8
    subst e0 e1 e8
    have u8 := bounds_u64 w8
    have ud := hdd.sq
    have hyx : y.1 = .agg [x0.1, x1.1, x2.1, x3.1] := by rw [hxs]; rfl
    refine ⟨⟨a0, a1, dd, a8, q1, k1, l1, q2, k2, l2⟩, rfl, by simp only; omega, by simp only; omega, r1, r2, ?_, ?_⟩
    · rcases s1 with rfl | ⟨elems, rest, e, hle⟩
      · simp
      · have := hw ((elems.length + rest.length) * Try.prog.bytesOf 89) (by
          rw [hyx, hy]
          simp [DataW.weights, Try.underlying64, DataW.weightsEach, e, Try.underlying28, Try.underlying30])
        rw [bytesL] at this
        unfold reachBytes at this
        simp only
        omega
    · rcases s2 with rfl | ⟨elems, rest, e, hle⟩
      · simp
      · have := hw ((elems.length + rest.length) * Try.prog.bytesOf 89) (by
          rw [hyx, hy]
          simp [DataW.weights, Try.underlying64, DataW.weightsEach, e, Try.underlying28, Try.underlying30])
        rw [bytesL] at this
        unfold reachBytes at this
        simp only
        omega
set_option maxRecDepth 100000 in
theorem open_ops {v : Value} {d : DataW H} {p : List MemPlace} (hv : Value.okWide Try.prog W r b0 52 v) (h : DataW.Trod enc Try.prog W base (fun _ => true) held 52 v d p) (hw : ∀ m ∈ d.weights Try.prog 52, m ≤ reachBytes) :
    ∃ q cap l, v = .slice q (l : List Ov).length cap ∧ Oz W q l ∧ l.length ≤ maxLen := by
  obtain ⟨a0, len0, cap0, rfl⟩ := okWide_slice Try.underlying52 hv
  obtain ⟨fuel, hf⟩ := h
  rcases open_slice Try.underlying52 hf with ⟨hcs, _⟩ | ⟨a, len, cap, m, n, D, Pl, hcs, _, hl, hm, hmm, hx, hr⟩
  · simp [Value.cells] at hcs
    obtain ⟨rfl, rfl, rfl⟩ := hcs
    exact ⟨none, 0, [], rfl, (fun i hi => by simp at hi), by simp⟩
  · simp [Value.cells] at hcs
    obtain ⟨rfl, rfl, rfl⟩ := hcs
    simp only [if_true] at hmm
    subst hmm
    have hd : d = _ := congrArg Prod.fst hx
    rw [cellsOp] at hr
    have hwe : ∀ i, i < len0 → ∀ k ∈ (D i).weights Try.prog 64, k ≤ reachBytes := fun i hi k hk => by
      refine hw k ?_
      rw [hd]
      simp only [DataW.weights, Try.underlying52, List.mem_cons, List.mem_append]
      exact Or.inr (Or.inl (weights_in hk (List.mem_map.2 ⟨i, List.mem_range.2 hi, rfl⟩)))
    haveI : Inhabited Ov := ⟨⟨0, false, dm0, 0, none, 0, [], none, 0, []⟩⟩
    obtain ⟨Z, hZ⟩ := choose_lt (α := Ov) (p := fun i z => W.cells? base (a.add (i * 11)) 11 = some [.int .i64 z.kd, .bool z.ot, .int .u64 z.d.sq, .int .i64 z.d.kd, .int .i64 z.d.sd, .int .i64 z.d.pr, .int .u64 z.d.qt, .int .i64 z.d.ct, .int .u64 z.ps, .slice z.b1 z.M1.length z.k1, .slice z.b2 z.M2.length z.k2] ∧ Ok W z) (n := len0) (fun i hi => by
      obtain ⟨cs', h1, h2⟩ := hr i (by omega)
      obtain ⟨z, rfl, h3⟩ := one_op (World.cells?_some h1).2.1 h2 (hwe i hi)
      exact ⟨z, h1, h3⟩)
    refine ⟨some a, m, (List.range len0).map Z, by simp, ?_, by simp; omega⟩
    intro i hi
    have hi' : i < len0 := by simpa using hi
    obtain ⟨hc, hS⟩ := hZ i hi'
    obtain ⟨hc0, _⟩ := hZ 0 (by omega)
    obtain ⟨_, _, hcc0⟩ := World.cells?_some hc0
    obtain ⟨_, _, hcc⟩ := World.cells?_some hc
    have e1 : ((List.range len0).map Z)[i] = Z i := by simp
    rw [e1]
    obtain ⟨b, off, spot⟩ := a
    have hspot : spot = none := by
      have := hcc0 0 (by omega)
      simpa [Addr.add] using World.cell?_spot this
    subst hspot
    have g0 := hcc 0 (by omega)
    rw [Addr.add_mid, Addr.add_mid] at g0
    refine ⟨b, off, rfl, block_lt_of_cell (v := .int .i64 (Z i).kd) g0, fun j hj => ?_, hS⟩
    have := hcc j hj
    rw [Addr.add_mid, Addr.add_mid] at this
    rw [this]
    simp
end
end Go.Proofs.Ytiphgfghdbmlcaa
