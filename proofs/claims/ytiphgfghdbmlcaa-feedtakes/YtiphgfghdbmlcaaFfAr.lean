/-
  What came in: levels, events, turns.
-/
import Derived.Test.YtiphgfghdbmlcaaFeAr
import Derived.Test.YtiphgfghdbmlcaaFfD
import Derived.Deep.Slices
import Derived.Deep.Strs
import Derived.SizedLaws
namespace Go.Proofs.Ytiphgfghdbmlcaa
open Go.ChangeShapes Go.WideShapes Go.ChangeAt Go.RowKit Go.Joins Go.Deep
set_option linter.unusedVariables false
set_option linter.unusedSimpArgs false
theorem cellsL : Try.prog.cellsOf 89 = 3 := by kernel_rfl
theorem cellsE : Try.prog.cellsOf 85 = 13 := by kernel_rfl
theorem cellsT : Try.prog.cellsOf 38 = 3 := by kernel_rfl
theorem cellsLs : Try.prog.cellsOf 28 = 1 := by kernel_rfl
theorem cellsEs : Try.prog.cellsOf 36 = 1 := by kernel_rfl
theorem cells32 : Try.prog.cellsOf 83 = 1 := by kernel_rfl
theorem cells24 : Try.prog.cellsOf 24 = 1 := by kernel_rfl
theorem bytesL : Try.prog.bytesOf 89 = 24 := by kernel_rfl
theorem bytesE : Try.prog.bytesOf 85 = 104 := by kernel_rfl
theorem add_add (a : Addr) (x y : Nat) : (a.add x).add y = a.add (x + y) := by
  by_cases hx : x = 0
  · subst hx; simp [Addr.add]
  · by_cases hy : y = 0
    · subst hy; simp [Addr.add]
    · simp [Addr.add, hx, hy, Nat.add_assoc]
theorem lv_get {w : World} {ad : Addr} {l : List Lv} (h : ∀ i (hi : i < l.length), ∀ r, r < 3 → w.cell? (ad.add (i * 3 + r)) = ([.int .i64 l[i].pr, .int .u64 l[i].qt, .int .i64 l[i].ct] : List Value)[r]?) : ∀ j u, (lvc l)[j]? = some u → w.cell? (ad.add j) = some u := by
  intro j u hj
  have hl : j < l.length * 3 := by have := (List.getElem?_eq_some_iff.1 hj).1; rwa [lvc_len] at this
  obtain ⟨i, r, hr, rfl⟩ : ∃ i r, r < 3 ∧ j = i * 3 + r := ⟨j / 3, j % 3, by omega, by omega⟩
  have hi : i < l.length := by omega
  rw [h i hi r hr, ← hj]
  obtain ⟨a, b, c⟩ := lvc_get hi
  have h3 : r = 0 ∨ r = 1 ∨ r = 2 := by omega
  rcases h3 with rfl | rfl | rfl
  · rw [Nat.add_zero, a]; rfl
  · rw [b]; rfl
  · rw [c]; rfl
theorem ev_get {w : World} {ad : Addr} {l : List Ev} (h : ∀ i (hi : i < l.length), ∀ r, r < 13 → w.cell? (ad.add (i * 13 + r)) = (#[.int .u64 l[i].sq, .int .i64 l[i].kd, .int .u64 l[i].id, .int .u64 l[i].ot, .int .u64 l[i].tg, .int .u32 l[i].mb, .int .i64 l[i].sd, .int .i64 l[i].ty, .int .i64 l[i].pr, .int .u64 l[i].qt, .int .u64 l[i].pk, .int .i64 l[i].rs, .int .i64 l[i].cd] : Array Value).toList[r]?) : ∀ j u, (evc l)[j]? = some u → w.cell? (ad.add j) = some u := by
  intro j u hj
  have hl : j < l.length * 13 := by have := (List.getElem?_eq_some_iff.1 hj).1; rwa [evc_len] at this
  obtain ⟨i, r, hr, rfl⟩ : ∃ i r, r < 13 ∧ j = i * 13 + r := ⟨j / 13, j % 13, by omega, by omega⟩
  have hi : i < l.length := by omega
  rw [h i hi r hr, ← hj, ← evc_get hi r hr]
section
variable {H : Type} {enc : TypeId × Value → H} {W : World} {base b0 : Nat} {held : Bool} {r : Reach}
set_option maxRecDepth 100000 in
theorem open_lv {n : Nat} {spare : Nat → Bool} {cs : List Value} {y : DataW H × List MemPlace} (hl : cs.length = 3) (h : DataW.trod enc Try.prog W base spare held n 89 cs = some y) :
    ∃ x : Lv, cs = [.int .i64 x.pr, .int .u64 x.qt, .int .i64 x.ct] := by
  match cs, hl with
  | [c0, c1, c2], _ =>
    obtain ⟨xs, m, _, _, _, hlen, hf⟩ := DataW.trod_struct Try.underlying89 h
    have g0 : DataW.trod enc Try.prog W base spare held m 3 (([c0, c1, c2].drop 0).take (Try.prog.cellsOf 3)) = xs[0]? := hf 0 _ rfl
    rw [List.getElem?_eq_getElem (by rw [hlen]; exact (by decide : 0 < 3)), cells3] at g0
    simp only [List.drop_zero, List.take_succ_cons, List.take_zero, List.drop_succ_cons] at g0
    obtain ⟨a0, e0, _, w0⟩ := DataW.trod_int Try.underlying3 g0
    have g1 : DataW.trod enc Try.prog W base spare held m 27 (([c0, c1, c2].drop 1).take (Try.prog.cellsOf 27)) = xs[1]? := hf 1 _ rfl
    rw [List.getElem?_eq_getElem (by rw [hlen]; exact (by decide : 1 < 3)), cellsU] at g1
    simp only [List.drop_zero, List.take_succ_cons, List.take_zero, List.drop_succ_cons] at g1
    obtain ⟨a1, e1, _, w1⟩ := DataW.trod_int Try.underlying27 g1
    have g2 : DataW.trod enc Try.prog W base spare held m 3 (([c0, c1, c2].drop 2).take (Try.prog.cellsOf 3)) = xs[2]? := hf 2 _ rfl
    rw [List.getElem?_eq_getElem (by rw [hlen]; exact (by decide : 2 < 3)), cells3] at g2
    simp only [List.drop_zero, List.take_succ_cons, List.take_zero, List.drop_succ_cons] at g2
    obtain ⟨a2, e2, _, w2⟩ := DataW.trod_int Try.underlying3 g2
    simp at e0 e1 e2
    subst e0 e1 e2
    exact ⟨⟨a0, a1, a2⟩, rfl⟩
set_option maxRecDepth 100000 in
theorem open_ev {n : Nat} {spare : Nat → Bool} {cs : List Value} {y : DataW H × List MemPlace} (hl : cs.length = 13) (h : DataW.trod enc Try.prog W base spare held n 85 cs = some y) :
    ∃ x : Ev, cs = [.int .u64 x.sq, .int .i64 x.kd, .int .u64 x.id, .int .u64 x.ot, .int .u64 x.tg, .int .u32 x.mb, .int .i64 x.sd, .int .i64 x.ty, .int .i64 x.pr, .int .u64 x.qt, .int .u64 x.pk, .int .i64 x.rs, .int .i64 x.cd] := by
  match cs, hl with
  | [c0, c1, c2, c3, c4, c5, c6, c7, c8, c9, c10, c11, c12], _ =>
    obtain ⟨xs, m, _, _, _, hlen, hf⟩ := DataW.trod_struct Try.underlying85 h
    have g0 : DataW.trod enc Try.prog W base spare held m 27 (([c0, c1, c2, c3, c4, c5, c6, c7, c8, c9, c10, c11, c12].drop 0).take (Try.prog.cellsOf 27)) = xs[0]? := hf 0 _ rfl
    rw [List.getElem?_eq_getElem (by rw [hlen]; exact (by decide : 0 < 13)), cellsU] at g0
    simp only [List.drop_zero, List.take_succ_cons, List.take_zero, List.drop_succ_cons] at g0
    obtain ⟨a0, e0, _, w0⟩ := DataW.trod_int Try.underlying27 g0
    have g1 : DataW.trod enc Try.prog W base spare held m 3 (([c0, c1, c2, c3, c4, c5, c6, c7, c8, c9, c10, c11, c12].drop 1).take (Try.prog.cellsOf 3)) = xs[1]? := hf 1 _ rfl
    rw [List.getElem?_eq_getElem (by rw [hlen]; exact (by decide : 1 < 13)), cells3] at g1
    simp only [List.drop_zero, List.take_succ_cons, List.take_zero, List.drop_succ_cons] at g1
    obtain ⟨a1, e1, _, w1⟩ := DataW.trod_int Try.underlying3 g1
    have g2 : DataW.trod enc Try.prog W base spare held m 27 (([c0, c1, c2, c3, c4, c5, c6, c7, c8, c9, c10, c11, c12].drop 2).take (Try.prog.cellsOf 27)) = xs[2]? := hf 2 _ rfl
    rw [List.getElem?_eq_getElem (by rw [hlen]; exact (by decide : 2 < 13)), cellsU] at g2
    simp only [List.drop_zero, List.take_succ_cons, List.take_zero, List.drop_succ_cons] at g2
    obtain ⟨a2, e2, _, w2⟩ := DataW.trod_int Try.underlying27 g2
    have g3 : DataW.trod enc Try.prog W base spare held m 27 (([c0, c1, c2, c3, c4, c5, c6, c7, c8, c9, c10, c11, c12].drop 3).take (Try.prog.cellsOf 27)) = xs[3]? := hf 3 _ rfl
    rw [List.getElem?_eq_getElem (by rw [hlen]; exact (by decide : 3 < 13)), cellsU] at g3
    simp only [List.drop_zero, List.take_succ_cons, List.take_zero, List.drop_succ_cons] at g3
    obtain ⟨a3, e3, _, w3⟩ := DataW.trod_int Try.underlying27 g3
    have g4 : DataW.trod enc Try.prog W base spare held m 27 (([c0, c1, c2, c3, c4, c5, c6, c7, c8, c9, c10, c11, c12].drop 4).take (Try.prog.cellsOf 27)) = xs[4]? := hf 4 _ rfl
    rw [List.getElem?_eq_getElem (by rw [hlen]; exact (by decide : 4 < 13)), cellsU] at g4
    simp only [List.drop_zero, List.take_succ_cons, List.take_zero, List.drop_succ_cons] at g4
    obtain ⟨a4, e4, _, w4⟩ := DataW.trod_int Try.underlying27 g4
    have g5 : DataW.trod enc Try.prog W base spare held m 83 (([c0, c1, c2, c3, c4, c5, c6, c7, c8, c9, c10, c11, c12].drop 5).take (Try.prog.cellsOf 83)) = xs[5]? := hf 5 _ rfl
    rw [List.getElem?_eq_getElem (by rw [hlen]; exact (by decide : 5 < 13)), cells32] at g5
    simp only [List.drop_zero, List.take_succ_cons, List.take_zero, List.drop_succ_cons] at g5
    obtain ⟨a5, e5, _, w5⟩ := DataW.trod_int Try.underlying83 g5
    have g6 : DataW.trod enc Try.prog W base spare held m 3 (([c0, c1, c2, c3, c4, c5, c6, c7, c8, c9, c10, c11, c12].drop 6).take (Try.prog.cellsOf 3)) = xs[6]? := hf 6 _ rfl
    rw [List.getElem?_eq_getElem (by rw [hlen]; exact (by decide : 6 < 13)), cells3] at g6
    simp only [List.drop_zero, List.take_succ_cons, List.take_zero, List.drop_succ_cons] at g6
    obtain ⟨a6, e6, _, w6⟩ := DataW.trod_int Try.underlying3 g6
    have g7 : DataW.trod enc Try.prog W base spare held m 3 (([c0, c1, c2, c3, c4, c5, c6, c7, c8, c9, c10, c11, c12].drop 7).take (Try.prog.cellsOf 3)) = xs[7]? := hf 7 _ rfl
    rw [List.getElem?_eq_getElem (by rw [hlen]; exact (by decide : 7 < 13)), cells3] at g7
    simp only [List.drop_zero, List.take_succ_cons, List.take_zero, List.drop_succ_cons] at g7
    obtain ⟨a7, e7, _, w7⟩ := DataW.trod_int Try.underlying3 g7
    have g8 : DataW.trod enc Try.prog W base spare held m 3 (([c0, c1, c2, c3, c4, c5, c6, c7, c8, c9, c10, c11, c12].drop 8).take (Try.prog.cellsOf 3)) = xs[8]? := hf 8 _ rfl
    rw [List.getElem?_eq_getElem (by rw [hlen]; exact (by decide : 8 < 13)), cells3] at g8
    simp only [List.drop_zero, List.take_succ_cons, List.take_zero, List.drop_succ_cons] at g8
    obtain ⟨a8, e8, _, w8⟩ := DataW.trod_int Try.underlying3 g8
    have g9 : DataW.trod enc Try.prog W base spare held m 27 (([c0, c1, c2, c3, c4, c5, c6, c7, c8, c9, c10, c11, c12].drop 9).take (Try.prog.cellsOf 27)) = xs[9]? := hf 9 _ rfl
    rw [List.getElem?_eq_getElem (by rw [hlen]; exact (by decide : 9 < 13)), cellsU] at g9
    simp only [List.drop_zero, List.take_succ_cons, List.take_zero, List.drop_succ_cons] at g9
    obtain ⟨a9, e9, _, w9⟩ := DataW.trod_int Try.underlying27 g9
    have g10 : DataW.trod enc Try.prog W base spare held m 27 (([c0, c1, c2, c3, c4, c5, c6, c7, c8, c9, c10, c11, c12].drop 10).take (Try.prog.cellsOf 27)) = xs[10]? := hf 10 _ rfl
    rw [List.getElem?_eq_getElem (by rw [hlen]; exact (by decide : 10 < 13)), cellsU] at g10
    simp only [List.drop_zero, List.take_succ_cons, List.take_zero, List.drop_succ_cons] at g10
    obtain ⟨a10, e10, _, w10⟩ := DataW.trod_int Try.underlying27 g10
    have g11 : DataW.trod enc Try.prog W base spare held m 3 (([c0, c1, c2, c3, c4, c5, c6, c7, c8, c9, c10, c11, c12].drop 11).take (Try.prog.cellsOf 3)) = xs[11]? := hf 11 _ rfl
    rw [List.getElem?_eq_getElem (by rw [hlen]; exact (by decide : 11 < 13)), cells3] at g11
    simp only [List.drop_zero, List.take_succ_cons, List.take_zero, List.drop_succ_cons] at g11
    obtain ⟨a11, e11, _, w11⟩ := DataW.trod_int Try.underlying3 g11
    have g12 : DataW.trod enc Try.prog W base spare held m 24 (([c0, c1, c2, c3, c4, c5, c6, c7, c8, c9, c10, c11, c12].drop 12).take (Try.prog.cellsOf 24)) = xs[12]? := hf 12 _ rfl
    rw [List.getElem?_eq_getElem (by rw [hlen]; exact (by decide : 12 < 13)), cells24] at g12
    simp only [List.drop_zero, List.take_succ_cons, List.take_zero, List.drop_succ_cons] at g12
    obtain ⟨a12, e12, _, w12⟩ := DataW.trod_int Try.underlying24 g12
    simp at e0 e1 e2 e3 e4 e5 e6 e7 e8 e9 e10 e11 e12
    subst e0 e1 e2 e3 e4 e5 e6 e7 e8 e9 e10 e11 e12
    exact ⟨⟨a0, a1, a2, a3, a4, a5, a6, a7, a8, a9, a10, a11, a12⟩, rfl⟩
set_option maxRecDepth 100000 in
theorem levels_of {n : Nat} {v : Value} {y : DataW H × List MemPlace} (hf : DataW.trod enc Try.prog W base (fun _ => true) held n 28 [v] = some y) :
    ∃ q cap l, v = .slice q (l : List Lv).length cap ∧ Rl W q cap l ∧ (l = [] ∨ ∃ elems rest, y.1 = .slice elems rest ∧ l.length ≤ elems.length) := by
  rcases open_slice Try.underlying28 hf with ⟨hcs, _⟩ | ⟨a, len, cap, m, n', D, Pl, hcs, _, hl, hm, hmm, hx, hr⟩
  · obtain rfl : v = .slice none 0 0 := by simpa using hcs
    exact ⟨none, 0, [], rfl, ⟨fun _ => ⟨rfl, rfl⟩, Nat.le_refl _, Nat.zero_le _, fun _ h => by cases h⟩, Or.inl rfl⟩
  · obtain rfl : v = .slice (some a) len cap := by simpa using hcs
    obtain ⟨len0, hlen0⟩ : ∃ k, len = k := ⟨_, rfl⟩
    subst hlen0
    simp only [if_true] at hmm
    subst hmm
    rw [cellsL] at hr
    haveI : Inhabited Lv := ⟨⟨0, 0, 0⟩⟩
    obtain ⟨Z, hZ⟩ := choose_lt (α := Lv) (p := fun i z => W.cells? base (a.add (i * 3)) 3 = some [.int .i64 z.pr, .int .u64 z.qt, .int .i64 z.ct]) (n := m) (fun i hi => by
      obtain ⟨cs', h1, h2⟩ := hr i hi
      obtain ⟨z, rfl⟩ := open_lv (World.cells?_some h1).2.1 h2
      exact ⟨z, h1⟩)
    have hlen : ((List.range len).map Z).length = len := by simp
    refine ⟨some a, m, (List.range len).map Z, by simp, ⟨(fun e => by cases e), by rw [hlen]; exact hl, hm, fun ad e => ?_⟩, Or.inr ⟨_, _, congrArg Prod.fst hx, by simp⟩⟩
    injection e with e
    subst e
    refine lv_get (fun i hi r hr => ?_)
    have hi' : i < len := by simpa using hi
    have hc := hZ i (by omega)
    obtain ⟨_, _, hcc⟩ := World.cells?_some hc
    have e1 : ((List.range len).map Z)[i] = Z i := by simp
    rw [e1, ← add_add]
    exact hcc r hr
set_option maxRecDepth 100000 in
theorem events_of {n : Nat} {v : Value} {y : DataW H × List MemPlace} (hf : DataW.trod enc Try.prog W base (fun _ => true) held n 36 [v] = some y) :
    ∃ q cap l, v = .slice q (l : List Ev).length cap ∧ Re W q cap l ∧ (l = [] ∨ ∃ elems rest, y.1 = .slice elems rest ∧ l.length ≤ elems.length) := by
  rcases open_slice Try.underlying36 hf with ⟨hcs, _⟩ | ⟨a, len, cap, m, n', D, Pl, hcs, _, hl, hm, hmm, hx, hr⟩
  · obtain rfl : v = .slice none 0 0 := by simpa using hcs
    exact ⟨none, 0, [], rfl, ⟨fun _ => ⟨rfl, rfl⟩, Nat.le_refl _, Nat.zero_le _, fun _ h => by cases h⟩, Or.inl rfl⟩
  · obtain rfl : v = .slice (some a) len cap := by simpa using hcs
    obtain ⟨len0, hlen0⟩ : ∃ k, len = k := ⟨_, rfl⟩
    subst hlen0
    simp only [if_true] at hmm
    subst hmm
    rw [cellsE] at hr
    haveI : Inhabited Ev := ⟨⟨0, 0, 0, 0, 0, 0, 0, 0, 0, 0, 0, 0, 0⟩⟩
    obtain ⟨Z, hZ⟩ := choose_lt (α := Ev) (p := fun i z => W.cells? base (a.add (i * 13)) 13 = some (#[.int .u64 z.sq, .int .i64 z.kd, .int .u64 z.id, .int .u64 z.ot, .int .u64 z.tg, .int .u32 z.mb, .int .i64 z.sd, .int .i64 z.ty, .int .i64 z.pr, .int .u64 z.qt, .int .u64 z.pk, .int .i64 z.rs, .int .i64 z.cd] : Array Value).toList) (n := m) (fun i hi => by
      obtain ⟨cs', h1, h2⟩ := hr i hi
      obtain ⟨z, rfl⟩ := open_ev (World.cells?_some h1).2.1 h2
      exact ⟨z, h1⟩)
    have hlen : ((List.range len).map Z).length = len := by simp
    refine ⟨some a, m, (List.range len).map Z, by simp, ⟨(fun e => by cases e), by rw [hlen]; exact hl, hm, fun ad e => ?_⟩, Or.inr ⟨_, _, congrArg Prod.fst hx, by simp⟩⟩
    injection e with e
    subst e
    refine ev_get (fun i hi r hr => ?_)
    have hi' : i < len := by simpa using hi
    have hc := hZ i (by omega)
    obtain ⟨_, _, hcc⟩ := World.cells?_some hc
    have e1 : ((List.range len).map Z)[i] = Z i := by simp
    rw [e1, ← add_add]
    exact hcc r hr
theorem weights_in {P : Program} {e : TypeId} {d : DataW H} {n : Nat} (hn : n ∈ d.weights P e) : ∀ {l : List (DataW H)}, d ∈ l → n ∈ DataW.weightsAll P e l
  | a :: l, h => by
    simp only [DataW.weightsAll, List.mem_append]
    rcases List.mem_cons.1 h with rfl | h
    · exact Or.inl hn
    · exact Or.inr (weights_in hn h)
  | [], h => by cases h
set_option maxRecDepth 100000 in
theorem one_turn {n : Nat} {cs : List Value} {y : DataW H × List MemPlace} (hl0 : cs.length = 3) (hf : DataW.trod enc Try.prog W base (fun _ => true) held n 38 cs = some y) (hw : ∀ m ∈ y.1.weights Try.prog 38, m ≤ reachBytes) :
    ∃ z : Tu, cs = [.slice z.pb z.lb.length z.cb, .slice z.ps z.ls.length z.cs, .slice z.pe z.le.length z.ce] ∧ Tk W z := by
  obtain ⟨y0, y1, y2, m, rfl, hl, h0, h1, h2⟩ := trod_struct3 Try.underlying38 hf
  match cs, hl0 with
  | [c0, c1, c2], _ =>
    simp only [cellsLs, cellsEs, List.drop_zero, List.take_succ_cons, List.take_zero, List.drop_succ_cons] at h0 h1 h2
    obtain ⟨q0, k0, l0, rfl, r0, s0⟩ := levels_of h0
    obtain ⟨q1, k1, l1, rfl, r1, s1⟩ := levels_of h1
    obtain ⟨q2, k2, l2, rfl, r2, s2⟩ := events_of h2
    refine ⟨⟨q0, k0, l0, q1, k1, l1, q2, k2, l2⟩, rfl, r0, r1, r2, ?_, ?_, ?_⟩
    · rcases s0 with rfl | ⟨elems, rest, e, hle⟩
      · simp
      · have := hw ((elems.length + rest.length) * Try.prog.bytesOf 89) (by
          simp [DataW.weights, Try.underlying38, DataW.weightsEach, e, Try.underlying28])
        rw [bytesL] at this
        unfold reachBytes at this
        simp only
        omega
    · rcases s1 with rfl | ⟨elems, rest, e, hle⟩
      · simp
      · have := hw ((elems.length + rest.length) * Try.prog.bytesOf 89) (by
          simp [DataW.weights, Try.underlying38, DataW.weightsEach, e, Try.underlying28])
        rw [bytesL] at this
        unfold reachBytes at this
        simp only
        omega
    · rcases s2 with rfl | ⟨elems, rest, e, hle⟩
      · simp
      · have := hw ((elems.length + rest.length) * Try.prog.bytesOf 85) (by
          simp [DataW.weights, Try.underlying38, DataW.weightsEach, e, Try.underlying36])
        rw [bytesE] at this
        unfold reachBytes at this
        simp only
        omega
set_option maxRecDepth 100000 in
theorem open_turns {v : Value} {d : DataW H} {p : List MemPlace} (hv : Value.okWide Try.prog W r b0 22 v) (h : DataW.Trod enc Try.prog W base (fun _ => true) held 22 v d p) (hw : ∀ m ∈ d.weights Try.prog 22, m ≤ reachBytes) :
    ∃ q cap l, v = .slice q (l : List Tu).length cap ∧ Tz W q l ∧ l.length ≤ maxLen := by
  obtain ⟨a0, len0, cap0, rfl⟩ := okWide_slice Try.underlying22 hv
  obtain ⟨fuel, hf⟩ := h
  rcases open_slice Try.underlying22 hf with ⟨hcs, _⟩ | ⟨a, len, cap, m, n, D, Pl, hcs, _, hl, hm, hmm, hx, hr⟩
  · simp [Value.cells] at hcs
    obtain ⟨rfl, rfl, rfl⟩ := hcs
    exact ⟨none, 0, [], rfl, (fun i hi => by simp at hi), by simp⟩
  · simp [Value.cells] at hcs
    obtain ⟨rfl, rfl, rfl⟩ := hcs
    simp only [if_true] at hmm
    subst hmm
    have hd : d = _ := congrArg Prod.fst hx
    rw [cellsT] at hr
    have hwe : ∀ i, i < len0 → ∀ k ∈ (D i).weights Try.prog 38, k ≤ reachBytes := fun i hi k hk => by
      refine hw k ?_
      rw [hd]
      simp only [DataW.weights, Try.underlying22, List.mem_cons, List.mem_append]
      exact Or.inr (Or.inl (weights_in hk (List.mem_map.2 ⟨i, List.mem_range.2 hi, rfl⟩)))
    haveI : Inhabited Tu := ⟨⟨none, 0, [], none, 0, [], none, 0, []⟩⟩
    obtain ⟨Z, hZ⟩ := choose_lt (α := Tu) (p := fun i z => W.cells? base (a.add (i * 3)) 3 = some [.slice z.pb z.lb.length z.cb, .slice z.ps z.ls.length z.cs, .slice z.pe z.le.length z.ce] ∧ Tk W z) (n := len0) (fun i hi => by
      obtain ⟨cs', h1, h2⟩ := hr i (by omega)
      obtain ⟨z, rfl, h3⟩ := one_turn (World.cells?_some h1).2.1 h2 (hwe i hi)
      exact ⟨z, h1, h3⟩)
    refine ⟨some a, m, (List.range len0).map Z, by simp, ?_, by simp; omega⟩
    intro i hi
    have hi' : i < len0 := by simpa using hi
    obtain ⟨hc, hS⟩ := hZ i hi'
    obtain ⟨hc0, _⟩ := hZ 0 (by omega)
    obtain ⟨_, _, hcc0⟩ := World.cells?_some hc0
    obtain ⟨_, _, hcc⟩ := World.cells?_some hc
    have e1 : ((List.range len0).map Z)[i] = Z i := by simp
    rw [e1]
    obtain ⟨b, off, spot⟩ := a
    have hspot : spot = none := by
      have := hcc0 0 (by omega)
      simpa [Addr.add] using World.cell?_spot this
    subst hspot
    have g0 := hcc 0 (by omega)
    have g1 := hcc 1 (by omega)
    have g2 := hcc 2 (by omega)
    rw [Addr.add_mid, Addr.add_mid] at g0 g1 g2
    exact ⟨b, off, rfl, block_lt_of_cell (v := .slice (Z i).pb (Z i).lb.length (Z i).cb) g0, g0, g1, g2, hS⟩
end
end Go.Proofs.Ytiphgfghdbmlcaa
