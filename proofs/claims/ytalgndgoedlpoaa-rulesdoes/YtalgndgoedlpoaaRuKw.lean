/-
  RuNw RuLv RuBg RuNu RuAr RuKp RuKq RuKw
-/
import Derived.Test.YtalgndgoedlpoaaRuOp
import Derived.Test.YtalgndgoedlpoaaRuDb
import Derived.Test.YtalgndgoedlpoaaRows
import Derived.ProofKit
import Derived.OpenShut
import Derived.JoinedCond
import Derived.ChangeSlices
import Derived.ChangeOld
import Derived.ChangeArms
import Derived.Below
import Derived.Lib.SmallJoins
namespace Go.Proofs.Ytalgndgoedlpoaa
section
open Go.RowKit Go.Deep Go.Shelf
set_option linter.unusedVariables false
set_option linter.unusedSimpArgs false
set_option maxHeartbeats 4000000
set_option maxRecDepth 100000
def cfg (cap meet : Int) : Bool := decide (1 ≤ cap ∧ cap ≤ 4096 ∧ 0 ≤ meet ∧ meet ≤ 3)
theorem can_any (cap meet : Int) (w : World) :
  Calls Try.prog 20 #[.agg #[.int .i64 cap, .int .i64 meet]] w fun e w' => e = .returned (.bool (cfg cap meet)) ∧ Below w.heap.size w w' := by
 by_cases h1 : 1 ≤ cap
 ·by_cases h2 : cap ≤ 4096
  ·by_cases h3 : 0 ≤ meet
   ·by_cases h4 : meet ≤ 3
    ·rw [show cfg cap meet = true from decide_eq_true ⟨h1, h2, h3, h4⟩]
     go_enter Try.func20, Try.ntmps20
     go_wp2
     go_ret
     exact ⟨rfl, ball _ _⟩
    ·rw [show cfg cap meet = false from by simp only [cfg, decide_eq_false_iff_not]; omega]
     go_enter Try.func20, Try.ntmps20
     go_wp2
     go_ret
     exact ⟨rfl, ball _ _⟩
   ·rw [show cfg cap meet = false from by simp only [cfg, decide_eq_false_iff_not]; omega]
    go_enter Try.func20, Try.ntmps20
    go_wp2
    go_ret
    exact ⟨rfl, ball _ _⟩
  ·rw [show cfg cap meet = false from by simp only [cfg, decide_eq_false_iff_not]; omega]
   go_enter Try.func20, Try.ntmps20
   go_wp2
   go_ret
   exact ⟨rfl, ball _ _⟩
 ·rw [show cfg cap meet = false from by simp only [cfg, decide_eq_false_iff_not]; omega]
  go_enter Try.func20, Try.ntmps20
  go_wp2
  go_ret
  exact ⟨rfl, ball _ _⟩
theorem new_any (cap meet : Int) (w : World) :
  Calls Try.prog 8 #[.agg #[.int .i64 cap, .int .i64 meet]] w fun e w' => (cfg cap meet = false ∧ e = .returned (.tuple #[.pointer none, .int .i64 1]) ∧ Below w.heap.size w w') ∨ (cfg cap meet = true ∧ ∃ B b, e = .returned (.tuple #[.pointer (some ⟨B, 0, none⟩), .int .i64 0]) ∧ Opd w w' B b cap meet [] [] 0 0) := by
 have CC := hid (fun U => can_any cap meet U)
 obtain ⟨v, hv⟩ : ∃ v, cfg cap meet = v := ⟨_, rfl⟩
 rw [hv] at CC ⊢
 clear hv
 have CO := hid (fun (U : World) => opened_any cap meet none 0 [] none 0 [] 0 0 U ⟨rfl, .inl ⟨rfl, rfl⟩⟩ ⟨rfl, .inl ⟨rfl, rfl⟩⟩ (by simp))
 simp only [List.length_nil] at CO
 have HB := hid (ball w (.cells #[.int .i64 cap, .int .i64 meet] 23))
 have sR : w.heap.size < (w.alloc (.cells #[.int .i64 cap, .int .i64 meet] 23)).heap.size := by simp
 have hr := World.alloc_heap_new w (.cells #[.int .i64 cap, .int .i64 meet] 23)
 obtain ⟨W, hW⟩ : ∃ W, w.alloc (.cells #[.int .i64 cap, .int .i64 meet] 23) = W := ⟨_, rfl⟩
 rw [hW] at HB hr
 have HR := hid hr
 have HW := hid hW
 clear hr hW sR
 go_enter Try.func8, Try.ntmps8
 go_upto_region 1 with fail
 have e0 := HW.out
 rw [e0]
 clear e0
 have c0 := row_cell HR.out 0
 have c1 := row_cell HR.out 1
 simp only [List.getElem?_toArray, List.getElem?_cons_succ, List.getElem?_cons_zero] at c0 c1
 cases v with
 | false =>
  go_wp2_with (go_at_call 20; with_reducible refine (CC.out _).mono ?_; rintro e w1 ⟨rfl, hb1⟩; have HB1 := hid (btr HB.out hb1); clear hb1)
  go_ret2
  exact ⟨rfl, HB1.out⟩
 | true =>
  go_wp2_with (first | (go_at_call 20; with_reducible refine (CC.out _).mono ?_; rintro e w1 ⟨rfl, hb1⟩; have HB1 := hid (btr HB.out hb1); have d0 := (hb1.cell (row_lt HR.out)).trans c0; have d1 := (hb1.cell (row_lt HR.out)).trans c1; clear hb1) | (go_at_call 21; with_reducible refine (CO.out _).mono ?_; rintro e w2 ⟨B, b, rfl, h2⟩; have H2 := hid h2; clear h2))
  go_ret2
  exact ⟨B, rfl, b, H2.out.bm, H2.out.num, H2.out.o1, H2.out.o2, fun j hj => Nat.le_trans HB1.out.size (H2.out.nw j hj), btr HB1.out H2.out.be⟩
end
section
open Go.RowKit Go.Deep Go.Shelf
set_option linter.unusedVariables false
set_option linter.unusedSimpArgs false
set_option maxHeartbeats 8000000
set_option maxRecDepth 100000
/-- a play is on. -/
structure Pl (w : World) (B : Nat) (b : Bs) (U : World) : Prop where
 be : Below w.heap.size w U
 bm : Bm U B b
 gb : Gb b
 nw : ∀ j, b.fp B j → w.heap.size ≤ j
theorem Pl.on {w : World} {B : Nat} {b : Bs} {U V : World} (h : Pl w B b U) (hb : Below U.heap.size U V) : Pl w B b V := ⟨btr h.be hb, h.bm.on hb, h.gb, h.nw⟩
/-- a new book. -/
structure Fr (b : Bs) (cap meet : Int) : Prop where
 l1 : b.l1 = []
 l2 : b.l2 = []
 num : b.cap = cap ∧ b.meet = meet ∧ b.high = 0 ∧ b.seq = 0
theorem fr_gb {b : Bs} {cap meet : Int} (h : Fr b cap meet) (hc : cfg cap meet = true) : Gb b := by
 have hc' : 1 ≤ cap ∧ cap ≤ 4096 ∧ 0 ≤ meet ∧ meet ≤ 3 := of_decide_eq_true hc
 have hsl : ∀ S, b.sl S = [] := fun S => by unfold Bs.sl; split; exact h.l1; exact h.l2
 have hn := h.num.1
 refine ⟨⟨fun S y hy => (by rw [hsl] at hy; simp at hy), fun S _ => by rw [hsl, srt_pw]; exact List.Pairwise.nil, by unfold Ids; rw [h.l1, h.l2]; simp, by rw [h.l1, h.l2]; simp⟩, ?_, by omega, fun S y hy => (by rw [hsl] at hy; simp at hy)⟩
 unfold lns
 rw [h.l1, h.l2]
 simp
 omega
theorem pl_new (cap meet : Int) (w : World) :
  Calls Try.prog 8 #[.agg #[.int .i64 cap, .int .i64 meet]] w fun e w' => (cfg cap meet = false ∧ e = .returned (.tuple #[.pointer none, .int .i64 1]) ∧ Below w.heap.size w w') ∨ (cfg cap meet = true ∧ ∃ B b, e = .returned (.tuple #[.pointer (some ⟨B, 0, none⟩), .int .i64 0]) ∧ Pl w B b w' ∧ Fr b cap meet) := by
 refine (new_any cap meet w).mono ?_
 rintro e w' (⟨h1, h2, h3⟩ | ⟨h1, B, b, rfl, ho⟩)
 ·exact .inl ⟨h1, h2, h3⟩
 ·have hf : Fr b cap meet := ⟨List.map_eq_nil_iff.1 ho.o1, List.map_eq_nil_iff.1 ho.o2, ho.num⟩
  exact .inr ⟨h1, B, b, rfl, ⟨ho.be, ho.bm, fr_gb hf h1, ho.nw⟩, hf⟩
end
section
open Go.RowKit Go.Deep Go.Shelf
set_option linter.unusedVariables false
set_option linter.unusedSimpArgs false
set_option maxHeartbeats 8000000
set_option maxRecDepth 100000
theorem Pl.back {w V : World} {B : Nat} {b : Bs} {U : World} (h : Pl V B b U) (hb : Below w.heap.size w V) : Pl w B b U :=
 ⟨btr hb h.be, h.bm, h.gb, fun j hj => Nat.le_trans hb.size (h.nw j hj)⟩
end
section
open Go.RowKit Go.Deep Go.Shelf
set_option linter.unusedVariables false
set_option linter.unusedSimpArgs false
set_option maxHeartbeats 8000000
set_option maxRecDepth 100000
/-- commands in memory. -/
def Cmz (w : World) (q : Option Addr) (l : List Cm) : Prop := ∀ i (h : i < l.length), ∃ b off, q = some ⟨b, off, none⟩ ∧ b < w.heap.size ∧ ∀ j, j < 9 → w.cell? ⟨b, off + i * 9 + j, none⟩ = (cmr l[i])[j]?
theorem cmz_cells {W U : World} {q : Option Addr} {l : List Cm} (h : Cmz W q l) (hU : Below W.heap.size W U) {i : Nat} (hi : i < l.length) : ∃ b off, q = some ⟨b, off, none⟩ ∧ U.cell? ⟨b, off + i * 9, none⟩ = some (.int .i64 l[i].kd) ∧ U.cell? ⟨b, off + i * 9 + 1, none⟩ = some (.int .u64 l[i].id) ∧ U.cell? ⟨b, off + i * 9 + 2, none⟩ = some (.int .u64 l[i].tg) ∧ U.cell? ⟨b, off + i * 9 + 3, none⟩ = some (.int .u32 l[i].mb) ∧ U.cell? ⟨b, off + i * 9 + 4, none⟩ = some (.int .i64 l[i].sd) ∧ U.cell? ⟨b, off + i * 9 + 5, none⟩ = some (.int .i64 l[i].ty) ∧ U.cell? ⟨b, off + i * 9 + 6, none⟩ = some (.int .i64 l[i].pr) ∧ U.cell? ⟨b, off + i * 9 + 7, none⟩ = some (.int .u64 l[i].qt) ∧ U.cell? ⟨b, off + i * 9 + 8, none⟩ = some (.int .u64 l[i].pk) := by
 obtain ⟨b, off, hq, hb, hc⟩ := h i hi
 have go : ∀ j, j < 9 → U.cell? ⟨b, off + i * 9 + j, none⟩ = (cmr l[i])[j]? := fun j hj => (hU.cell (p := ⟨b, off + i * 9 + j, none⟩) hb).trans (hc j hj)
 exact ⟨b, off, hq, go 0 (by omega), go 1 (by omega), go 2 (by omega), go 3 (by omega), go 4 (by omega), go 5 (by omega), go 6 (by omega), go 7 (by omega), go 8 (by omega)⟩
end
section
open Go.ChangeShapes Go.WideShapes Go.ChangeAt Go.RowKit Go.Joins Go.Deep
set_option linter.unusedVariables false
theorem own : ownKnob Try.prog.godebug = none := by kernel_rfl
theorem laidOut : laidOutB Try.prog = true := by kernel_rfl
theorem bounds_u64 {x : Int} (h : (Lit.int .u64 x).wf = true) : 0 ≤ x ∧ x < 18446744073709551616 := by
 simp [Lit.wf, IntKind.min, IntKind.max, IntKind.signed, IntKind.bits] at h
 omega
theorem bounds_u32 {x : Int} (h : (Lit.int .u32 x).wf = true) : 0 ≤ x ∧ x < 4294967296 := by
 simp [Lit.wf, IntKind.min, IntKind.max, IntKind.signed, IntKind.bits] at h
 omega
theorem add_mid (b o j : Nat) : (⟨b, o, none⟩ : Addr).add j = ⟨b, o + j, none⟩ := by unfold Addr.add; split <;> simp_all
theorem cells39 : Try.prog.cellsOf 39 = 9 := by kernel_rfl
theorem cells3 : Try.prog.cellsOf 3 = 1 := by kernel_rfl
theorem cells30 : Try.prog.cellsOf 30 = 1 := by kernel_rfl
theorem cells37 : Try.prog.cellsOf 37 = 1 := by kernel_rfl
theorem cells23 : Try.prog.cellsOf 23 = 2 := by kernel_rfl
section
variable {H : Type} {enc : TypeId × Value → H} {W : World} {base b0 : Nat} {spare : Nat → Bool} {held : Bool} {r : Reach}
set_option maxRecDepth 100000 in
theorem open_cm {n : Nat} {cs : List Value} {y : DataW H × List MemPlace} (hl : cs.length = 9) (h : DataW.trod enc Try.prog W base spare held n 39 cs = some y) :
  ∃ x : Cm, cs = (cmr x).toList ∧ CmOk x := by
 match cs, hl with
 | [c0, c1, c2, c3, c4, c5, c6, c7, c8], _ =>
  obtain ⟨xs, m, _, _, _, hlen, hf⟩ := DataW.trod_struct Try.underlying39 h
  have g0 : DataW.trod enc Try.prog W base spare held m 3 (([c0, c1, c2, c3, c4, c5, c6, c7, c8].drop 0).take (Try.prog.cellsOf 3)) = xs[0]? := hf 0 _ rfl
  rw [List.getElem?_eq_getElem (by rw [hlen]; exact (by decide : 0 < 9)), cells3] at g0
  have g1 : DataW.trod enc Try.prog W base spare held m 30 (([c0, c1, c2, c3, c4, c5, c6, c7, c8].drop 1).take (Try.prog.cellsOf 30)) = xs[1]? := hf 1 _ rfl
  rw [List.getElem?_eq_getElem (by rw [hlen]; exact (by decide : 1 < 9)), cells30] at g1
  have g2 : DataW.trod enc Try.prog W base spare held m 30 (([c0, c1, c2, c3, c4, c5, c6, c7, c8].drop 2).take (Try.prog.cellsOf 30)) = xs[2]? := hf 2 _ rfl
  rw [List.getElem?_eq_getElem (by rw [hlen]; exact (by decide : 2 < 9)), cells30] at g2
  have g3 : DataW.trod enc Try.prog W base spare held m 37 (([c0, c1, c2, c3, c4, c5, c6, c7, c8].drop 3).take (Try.prog.cellsOf 37)) = xs[3]? := hf 3 _ rfl
  rw [List.getElem?_eq_getElem (by rw [hlen]; exact (by decide : 3 < 9)), cells37] at g3
  have g4 : DataW.trod enc Try.prog W base spare held m 3 (([c0, c1, c2, c3, c4, c5, c6, c7, c8].drop 4).take (Try.prog.cellsOf 3)) = xs[4]? := hf 4 _ rfl
  rw [List.getElem?_eq_getElem (by rw [hlen]; exact (by decide : 4 < 9)), cells3] at g4
  have g5 : DataW.trod enc Try.prog W base spare held m 3 (([c0, c1, c2, c3, c4, c5, c6, c7, c8].drop 5).take (Try.prog.cellsOf 3)) = xs[5]? := hf 5 _ rfl
  rw [List.getElem?_eq_getElem (by rw [hlen]; exact (by decide : 5 < 9)), cells3] at g5
  have g6 : DataW.trod enc Try.prog W base spare held m 3 (([c0, c1, c2, c3, c4, c5, c6, c7, c8].drop 6).take (Try.prog.cellsOf 3)) = xs[6]? := hf 6 _ rfl
  rw [List.getElem?_eq_getElem (by rw [hlen]; exact (by decide : 6 < 9)), cells3] at g6
  have g7 : DataW.trod enc Try.prog W base spare held m 30 (([c0, c1, c2, c3, c4, c5, c6, c7, c8].drop 7).take (Try.prog.cellsOf 30)) = xs[7]? := hf 7 _ rfl
  rw [List.getElem?_eq_getElem (by rw [hlen]; exact (by decide : 7 < 9)), cells30] at g7
  have g8 : DataW.trod enc Try.prog W base spare held m 30 (([c0, c1, c2, c3, c4, c5, c6, c7, c8].drop 8).take (Try.prog.cellsOf 30)) = xs[8]? := hf 8 _ rfl
  rw [List.getElem?_eq_getElem (by rw [hlen]; exact (by decide : 8 < 9)), cells30] at g8
  simp only [List.drop_zero, List.take_succ_cons, List.take_zero, List.drop_succ_cons] at g0 g1 g2 g3 g4 g5 g6 g7 g8
  obtain ⟨a0, e0, _, w0⟩ := DataW.trod_int Try.underlying3 g0
  obtain ⟨a1, e1, _, w1⟩ := DataW.trod_int Try.underlying30 g1
  obtain ⟨a2, e2, _, w2⟩ := DataW.trod_int Try.underlying30 g2
  obtain ⟨a3, e3, _, w3⟩ := DataW.trod_int Try.underlying37 g3
  obtain ⟨a4, e4, _, w4⟩ := DataW.trod_int Try.underlying3 g4
  obtain ⟨a5, e5, _, w5⟩ := DataW.trod_int Try.underlying3 g5
  obtain ⟨a6, e6, _, w6⟩ := DataW.trod_int Try.underlying3 g6
  obtain ⟨a7, e7, _, w7⟩ := DataW.trod_int Try.underlying30 g7
  obtain ⟨a8, e8, _, w8⟩ := DataW.trod_int Try.underlying30 g8
  simp at e0 e1 e2 e3 e4 e5 e6 e7 e8
  subst e0 e1 e2 e3 e4 e5 e6 e7 e8
  have b1 := bounds_u64 w1
  have b3 := bounds_u32 w3
  have b7 := bounds_u64 w7
  have b8 := bounds_u64 w8
  exact ⟨⟨a0, a1, a2, a3, a4, a5, a6, a7, a8⟩, rfl, b1.1, b1.2, b3.1, b3.2, b7.1, b7.2, b8.1, b8.2⟩
set_option maxRecDepth 100000 in
theorem open_cms {v : Value} {d : DataW H} {p : List MemPlace} (hv : Value.okWide Try.prog W r b0 24 v) (h : DataW.Trod enc Try.prog W base (fun _ => true) held 24 v d p) :
  ∃ q cap l, v = .slice q (l : List Cm).length cap ∧ Cmz W q l ∧ (∀ x ∈ l, CmOk x) ∧ l.length ≤ maxLen := by
 obtain ⟨a0, len0, cap0, rfl⟩ := okWide_slice (P := Try.prog) Try.underlying24 hv
 obtain ⟨fuel, hf⟩ := h
 rcases open_slice Try.underlying24 hf with ⟨hcs, _⟩ | ⟨a, len, cap, m, n, D, Pl, hcs, _, hl, hm, hmm, hx, hr⟩
 ·simp [Value.cells] at hcs
  obtain ⟨rfl, rfl, rfl⟩ := hcs
  exact ⟨none, 0, [], rfl, fun i hi => by simp at hi, by simp, by simp⟩
 ·simp [Value.cells] at hcs
  obtain ⟨rfl, rfl, rfl⟩ := hcs
  simp only [if_true] at hmm
  subst hmm
  rw [cells39] at hr
  haveI : Inhabited Cm := ⟨⟨0, 0, 0, 0, 0, 0, 0, 0, 0⟩⟩
  obtain ⟨Z, hZ⟩ := choose_lt (α := Cm) (p := fun i z => W.cells? base (a.add (i * 9)) 9 = some (cmr z).toList ∧ CmOk z) (n := m) (fun i hi => by
   obtain ⟨cs', h1, h2⟩ := hr i hi
   obtain ⟨z, rfl, h3⟩ := open_cm (World.cells?_some h1).2.1 h2
   exact ⟨z, h1, h3⟩)
  refine ⟨some a, m, (List.range len0).map Z, by simp, ?_, ?_, by simp; omega⟩
  ·intro i hi
   have hi' : i < len0 := by simpa using hi
   obtain ⟨hc, _⟩ := hZ i (by omega)
   obtain ⟨hc0, _⟩ := hZ 0 (by omega)
   obtain ⟨_, _, hcc0⟩ := World.cells?_some hc0
   obtain ⟨_, _, hcc⟩ := World.cells?_some hc
   have e1 : ((List.range len0).map Z)[i] = Z i := by simp
   rw [e1]
   obtain ⟨b, off, spot⟩ := a
   have hspot : spot = none := by
    have := hcc0 0 (by omega)
    simpa [Addr.add] using World.cell?_spot this
   subst hspot
   have g0 := hcc 0 (by omega)
   rw [add_mid, add_mid] at g0
   refine ⟨b, off, rfl, block_lt_of_cell (v := .int .i64 (Z i).kd) g0, ?_⟩
   intro j hj
   have g := hcc j hj
   rw [add_mid, add_mid] at g
   rw [g]
   simp
  ·intro x hx'
   obtain ⟨i, hi, rfl⟩ := List.mem_map.1 hx'
   exact (hZ i (by have := List.mem_range.1 hi; omega)).2
set_option maxRecDepth 100000 in
theorem open_cfg {v : Value} {d : DataW H} {p : List MemPlace} (hv : Value.okWide Try.prog W r b0 23 v) (h : DataW.Trod enc Try.prog W base spare held 23 v d p) :
  ∃ cap meet : Int, v = .agg #[.int .i64 cap, .int .i64 meet] := by
 obtain ⟨cs, rfl, hsz⟩ := okWide_struct Try.underlying23 hv
 rw [cells23] at hsz
 obtain ⟨fuel, hf⟩ := h
 obtain ⟨y0, y1, n, hx, _, h0, h1⟩ := trod_struct2 Try.underlying23 hf
 obtain ⟨l⟩ := cs
 match l, hsz with
 | [c0, c1], _ =>
  simp only [Value.cells, cells3, List.drop_zero, List.take_succ_cons, List.take_zero, List.drop_succ_cons] at h0 h1
  obtain ⟨a0, e0, _, _⟩ := DataW.trod_int Try.underlying3 h0
  obtain ⟨a1, e1, _, _⟩ := DataW.trod_int Try.underlying3 h1
  simp at e0 e1
  subst e0 e1
  exact ⟨a0, a1, rfl⟩
end
end
section
open Go.RowKit Go.Deep Go.Shelf
set_option linter.unusedVariables false
set_option linter.unusedSimpArgs false
theorem bhd_map {s p : Int} {l l2 : LO} (h : l2.map (·.2) = l.map (·.2)) : bhd s p l2 = bhd s p l := by
 have e : ∀ l : LO, bhd s p l = ((l.map (·.2)).takeWhile fun y => !btt s p y.pr).length := fun l => by
  unfold bhd
  rw [List.takeWhile_map, List.length_map]
  rfl
 rw [e, e, h]
theorem ins_map {i : Nat} {x x2 : Nat × Or} {l l2 : LO} (hx : x2.2 = x.2) (h : l2.map (·.2) = l.map (·.2)) : (ins i x2 l2).map (·.2) = (ins i x l).map (·.2) := by
 unfold ins
 simp only [List.map_append, List.map_cons, List.map_take, List.map_drop, h, hx]
theorem agn_map {s : Int} {x x2 : Nat × Or} {r r2 : LO} (hx : x2.2 = x.2) (h : r2.map (·.2) = r.map (·.2)) : (agn s (x2 :: r2)).map (·.2) = (agn s (x :: r)).map (·.2) := by
 show (ins (bhd s x2.2.pr (x2 :: r2) - 1) x2 r2).map (·.2) = (ins (bhd s x.2.pr (x :: r) - 1) x r).map (·.2)
 have : bhd s x2.2.pr (x2 :: r2) = bhd s x.2.pr (x :: r) := by
  rw [hx]
  exact bhd_map (by simp [hx, h])
 rw [this]
 exact ins_map hx h
theorem trl_map {S : Int} {f f2 : Nat} {x : Or} {r r2 : LO} {q : Int} (h : r2.map (·.2) = r.map (·.2)) : (trl S f2 x r2 q).map (·.2) = (trl S f x r q).map (·.2) := by
 unfold trl
 split
 ·simp [h]
 ·split
  ·exact h
  ·exact agn_map rfl h
theorem Sm.told {b b2 : Bs} (h : Sm b b2) : Sm b.told b2.told := ⟨⟨h.num.1, h.num.2.1, h.num.2.2.1, by show nx _ = nx _; rw [h.num.2.2.2]⟩, h.o1, h.o2⟩
theorem Sm.put {b b2 : Bs} (h : Sm b b2) {s : Int} (hs : s = 1 ∨ s = 2) {p p2 : Option Addr} {c c2 : Nat} {l l2 : LO} (hl : l2.map (·.2) = l.map (·.2)) : Sm (b.put s p c l) (b2.put s p2 c2 l2) := by
 rcases hs with rfl | rfl
 ·exact ⟨h.num, hl, h.o2⟩
 ·exact ⟨h.num, h.o1, hl⟩
/-- two orders that meet alike. -/
structure Lk (o o2 : Or) : Prop where
 id : o2.id = o.id
 mb : o2.mb = o.mb
 pr : o2.pr = o.pr
 ty : (o2.ty == 2) = (o.ty == 2)
theorem mtB_same {b b2 : Bs} {o o2 : Or} {s q : Int} {f f2 : Nat} {x : Or} {r r2 : LO} (hs : s = 1 ∨ s = 2) (h : Sm b b2) (k : Lk o o2) (hl : b.sl (oth s) = (f, x) :: r) (hl2 : b2.sl (oth s) = (f2, x) :: r2) (hr : r2.map (·.2) = r.map (·.2)) :
  (mtB b2 o2 s q f2 x r2).2 = (mtB b o s q f x r).2 ∧ Sm (mtB b o s q f x r).1 (mtB b2 o2 s q f2 x r2).1 := by
 have hS := oth_side hs
 have hp : prt b2 o2 x = prt b o x := by unfold prt; rw [h.num.2.1, k.mb]
 have hsq := h.num.2.2.2
 have hm := h.num.2.1
 have hev : ∀ q', evT o2 s x q' = evT o s x q' := fun q' => by unfold evT; rw [k.id]
 unfold mtB
 rw [hp, hm, hsq, k.id]
 split
 ·refine ⟨by simp only [tre, hev], ?_⟩
  have ht : Sm (trb b x (min q x.vi)) (trb b2 x (min q x.vi)) := by
   unfold trb
   split
   ·exact h.told
   ·split
    ·exact h.told
    ·exact h.told.told
  exact ht.put hS (trl_map hr)
 ·have hd : Sm (b.del (oth s) 0) (b2.del (oth s) 0) := h.put hS (by rw [hl, hl2]; exact hr)
  split
  ·exact ⟨rfl, h.told⟩
  ·split
   ·exact ⟨rfl, hd.told⟩
   ·exact ⟨rfl, hd.told.told⟩
theorem mts_same {b b2 : Bs} {o o2 : Or} {s : Int} (h : Sm b b2) (k : Lk o o2) : mts b2 o2 s = mts b o s := by
 unfold mts
 have e := h.sl (oth s)
 cases hl : b.sl (oth s) with
 | nil => rw [hl] at e; simp only [List.map_nil, List.map_eq_nil_iff] at e; rw [e]; rfl
 | cons y r =>
  rw [hl] at e
  cases hl2 : b2.sl (oth s) with
  | nil => rw [hl2] at e; simp at e
  | cons y2 r2 =>
   rw [hl2] at e
   simp only [List.map_cons, List.cons.injEq] at e
   show rch o2 s y2.2.pr = rch o s y.2.pr
   unfold rch
   rw [e.1, k.ty, k.pr]
theorem cms_same {o o2 : Or} {s : Int} (hs : s = 1 ∨ s = 2) (k : Lk o o2) : ∀ (n : Nat) (b b2 : Bs) (es es2 : List Ev) (q : Int), Sm b b2 → ∃ add, (cms o s n (b, es, q)).2.1 = es ++ add ∧ (cms o2 s n (b2, es2, q)).2.1 = es2 ++ add ∧ (cms o2 s n (b2, es2, q)).2.2 = (cms o s n (b, es, q)).2.2
 | 0, b, b2, es, es2, q, h => ⟨[], by simp [cms], by simp [cms], rfl⟩
 | n + 1, b, b2, es, es2, q, h => by
  by_cases hc : 0 < q ∧ mts b o s = true
  ·have hc2 : 0 < q ∧ mts b2 o2 s = true := ⟨hc.1, by rw [mts_same h k]; exact hc.2⟩
   obtain ⟨f, x, r, hl⟩ := mts_cons hc.2
   obtain ⟨f2, x2, r2, hl2⟩ := mts_cons hc2.2
   have e := h.sl (oth s)
   rw [hl, hl2] at e
   simp only [List.map_cons, List.cons.injEq] at e
   obtain ⟨rfl, hr⟩ := e
   rw [cms_step hc hl, cms_step hc2 hl2]
   obtain ⟨e1, e2⟩ := mtB_same (q := q) hs h k hl hl2 hr
   rw [e1]
   obtain ⟨add, g1, g2, g3⟩ := cms_same hs k n _ _ (es ++ (mtB b o s q f x2 r).2.1) (es2 ++ (mtB b o s q f x2 r).2.1) (mtB b o s q f x2 r).2.2 e2
   exact ⟨(mtB b o s q f x2 r).2.1 ++ add, by rw [g1, List.append_assoc], by rw [g2, List.append_assoc], g3⟩
  ·have hc2 : ¬ (0 < q ∧ mts b2 o2 s = true) := by rw [mts_same h k]; exact hc
   rw [cms_end hc, cms_end hc2]
   exact ⟨[], by simp, by simp, rfl⟩
/-- what trades in what is told. -/
def trd : List Ev → Int
 | [] => 0
 | e :: es => (if e.kd = 3 then e.qt else 0) + trd es
theorem trd_append (a b : List Ev) : trd (a ++ b) = trd a + trd b := by
 induction a with
 | nil => simp [trd]
 | cons e es ih => simp only [List.cons_append, trd, ih]; omega
/-- each trade is of something. -/
def Pos (es : List Ev) : Prop := ∀ e ∈ es, e.kd = 3 → 0 ≤ e.qt
theorem trd_pos {es : List Ev} (h : Pos es) : 0 ≤ trd es := by
 induction es with
 | nil => exact Int.le_refl _
 | cons e es ih =>
  have h1 := ih (fun x hx => h x (List.mem_cons_of_mem _ hx))
  have h2 := h e (by simp)
  unfold trd
  split
  ·have := h2 ‹_›; omega
  ·omega
theorem fld_trd {es : List Ev} {q : Int} (h : Pos es) (h1 : trd es ≤ q) (h2 : q < 4294967296) : fld q es = q - trd es := by
 induction es generalizing q with
 | nil => simp [fld, trd]
 | cons e es ih =>
  have hp : Pos es := fun x hx => h x (List.mem_cons_of_mem _ hx)
  have h3 := trd_pos hp
  have h4 := h e (by simp)
  unfold fld
  unfold trd at h1 ⊢
  by_cases k : e.kd = 3
  ·have := h4 k
   rw [if_pos k] at h1 ⊢
   rw [if_pos k]
   rw [show IntKind.u64.wrap (q - e.qt) = q - e.qt by rw [IntKind.wrap_u64]; omega]
   rw [ih hp (by omega) (by omega)]
   omega
  ·rw [if_neg k] at h1 ⊢
   rw [if_neg k, ih hp (by omega) h2]
   omega
theorem mtB_trd {b : Bs} {o : Or} {s q : Int} {f : Nat} {x : Or} {r : LO} (hq : 0 ≤ q) (hx : 0 ≤ x.vi) : Pos (mtB b o s q f x r).2.1 ∧ trd (mtB b o s q f x r).2.1 + (mtB b o s q f x r).2.2 ≤ q := by
 unfold mtB
 split
 ·simp only [tre]
  split
  ·exact ⟨by intro e he; simp only [List.mem_singleton] at he; subst he; intro _; show 0 ≤ min q x.vi; omega, by simp [trd, evT, Ev.num]; omega⟩
  ·split
   ·exact ⟨by intro e he; simp only [List.mem_singleton] at he; subst he; intro _; show 0 ≤ min q x.vi; omega, by simp [trd, evT, Ev.num]; omega⟩
   ·refine ⟨?_, by simp [trd, evT, evF, Ev.num]; omega⟩
    intro e he
    simp only [List.mem_cons, List.not_mem_nil, or_false] at he
    rcases he with rfl | rfl
    ·intro _; show 0 ≤ min q x.vi; omega
    ·intro h; cases h
 ·split
  ·exact ⟨by intro e he; simp only [List.mem_singleton] at he; subst he; intro h; exact absurd (show (4 : Int) = 3 from h) (by decide), by simp [trd, evC, Ev.num]; omega⟩
  ·split
   ·exact ⟨by intro e he; simp only [List.mem_singleton] at he; subst he; intro h; exact absurd (show (4 : Int) = 3 from h) (by decide), by simp [trd, evC, Ev.num]⟩
   ·refine ⟨?_, by simp [trd, evC, Ev.num]; omega⟩
    intro e he
    simp only [List.mem_cons, List.not_mem_nil, or_false] at he
    rcases he with rfl | rfl <;> (intro h; cases h)
theorem cms_trd {o : Or} {s : Int} (hs : s = 1 ∨ s = 2) : ∀ (n : Nat) (b : Bs) (es : List Ev) (q : Int), Vb b → 0 ≤ q → Pos es → Pos (cms o s n (b, es, q)).2.1 ∧ trd (cms o s n (b, es, q)).2.1 + (cms o s n (b, es, q)).2.2 ≤ trd es + q
 | 0, b, es, q, v, hq, hp => ⟨hp, Int.le_refl _⟩
 | n + 1, b, es, q, v, hq, hp => by
  by_cases hc : 0 < q ∧ mts b o s = true
  ·obtain ⟨f, x, r, hl⟩ := mts_cons hc.2
   rw [cms_step hc hl]
   obtain ⟨v', _, _, q0, q1⟩ := v.met (o := o) hs hl hc.1
   have hx := (v.ok (oth s) (f, x) (by rw [hl]; simp)).1
   simp only at hx
   obtain ⟨m1, m2⟩ := mtB_trd (b := b) (o := o) (s := s) (f := f) (r := r) hq (Int.le_of_lt hx)
   obtain ⟨g1, g2⟩ := cms_trd (o := o) hs n (mtB b o s q f x r).1 (es ++ (mtB b o s q f x r).2.1) (mtB b o s q f x r).2.2 v' q0 (by
    intro e he
    rcases List.mem_append.1 he with he | he
    ·exact hp e he
    ·exact m1 e he)
   refine ⟨g1, ?_⟩
   rw [trd_append] at g2
   omega
  ·rw [cms_end hc]
   exact ⟨hp, Int.le_refl _⟩
end
section
open Go.RowKit Go.Deep Go.Shelf
set_option linter.unusedVariables false
set_option linter.unusedSimpArgs false
theorem Sm.refl (b : Bs) : Sm b b := ⟨⟨rfl, rfl, rfl, rfl⟩, rfl, rfl⟩
theorem Lk.refl (o : Or) : Lk o o := ⟨rfl, rfl, rfl, rfl⟩
end
section
open Go.RowKit Go.Deep Go.Shelf
set_option linter.unusedVariables false
set_option linter.unusedSimpArgs false
set_option maxHeartbeats 8000000
set_option maxRecDepth 100000
theorem pl_do2 {w : World} {B : Nat} {b : Bs} {U : World} (c : Cm) (h : Pl w B b U) (hc : CmOk c) :
  Calls Try.prog 10 #[.pointer (some ⟨B, 0, none⟩), .agg (cmr c)] U fun e w' => ∃ b' p q es', e = .returned (.slice p es'.length q) ∧ Pl w B b' w' ∧ w'.ownsRow 0 58 13 (.slice p es'.length q) es'.length (evs es') ∧ Did b c b' es' ∧ Kp (b.fp B) U w' := by
 refine (do_any B b c U h.bm h.gb.vb hc).mono ?_
 rintro e w' ⟨T, b', ve', es', rfl, htd, hd⟩
 obtain ⟨p, q, rfl⟩ := own_form htd.tn.ev
 refine ⟨b', p, q, es', rfl, ⟨h.be.trans (htd.kp.below h.be.size (fun j hj hf => by have := h.nw j hf; omega)), htd.tn.bm, (hd.good h.gb hc).1, fun j hj => ?_⟩, htd.tn.ev, hd, htd.kp⟩
 rcases htd.fr j (.inr hj) with e | e
 ·exact h.nw j e
 ·exact Nat.le_trans h.be.size e
/-- a told book lies beside the play. -/
structure Ly (W : World) (X : Nat) (b : Bs) (v1 v2 : Value) (U : World) : Prop where
 row : U.heap[X]? = some (.cells (bkv b v1 v2) 32 (0, 0))
 o1 : U.ownsRow W.heap.size 50 7 v1 b.l1.length (ors (osl b.l1))
 o2 : U.ownsRow W.heap.size 50 7 v2 b.l2.length (ors (osl b.l2))
 wx : W.heap.size ≤ X
theorem Ly.on {W : World} {X : Nat} {b : Bs} {v1 v2 : Value} {U V : World} (h : Ly W X b v1 v2 U) (hb : Below U.heap.size U V) : Ly W X b v1 v2 V := ⟨row_on h.row hb, own_on h.o1 hb, own_on h.o2 hb, h.wx⟩
theorem Ly.kept {W wr : World} {X B : Nat} {b b0 : Bs} {v1 v2 : Value} {U V : World} (h : Ly wr X b v1 v2 U) (hm0 : Bm wr B b0) (hm : Bm U B b0) (hk : Kp (b0.fp B) U V) : Ly wr X b v1 v2 V := by
 have hlt : ∀ g, b0.fp B g → g < wr.heap.size := fun g hg => by
  obtain ⟨c, t, e, _⟩ := hm0.ty hg
  exact row_lt e
 refine ⟨hk.row h.row (fun hf => hm.ne h.row (by decide) (by decide) (by decide) hf rfl), own_same h.o1 (fun g hg => ?_), own_same h.o2 (fun g hg => ?_), h.wx⟩
 ·obtain ⟨c, e⟩ := own_ty h.o1 hg
  exact hk.obj g (row_lt e) (fun hf => by have := hlt g hf; have := (h.o1.lt g hg).1; omega)
 ·obtain ⟨c, e⟩ := own_ty h.o2 hg
  exact hk.obj g (row_lt e) (fun hf => by have := hlt g hf; have := (h.o2.lt g hg).1; omega)
theorem Ly.told {W : World} {X : Nat} {b : Bs} {v1 v2 : Value} {U : World} (h : Ly W X b v1 v2 U) : Ly W X b.told v1 v2 (U.setCell ⟨X, 5, none⟩ (.int .u64 (nx b.seq))) := by
 have hk := Kp.set U X 5 (.int .u64 (nx b.seq))
 refine ⟨by rw [set_row _ h.row]; rfl, own_same h.o1 (fun g hg => ?_), own_same h.o2 (fun g hg => ?_), h.wx⟩
 ·obtain ⟨c, e⟩ := own_ty h.o1 hg; exact hk.obj g (row_lt e) (row_ne e h.row (by decide))
 ·obtain ⟨c, e⟩ := own_ty h.o2 hg; exact hk.obj g (row_lt e) (row_ne e h.row (by decide))
theorem Pl.set {w : World} {B : Nat} {b : Bs} {U : World} {X k : Nat} {v : Value} {c : Array Value} (h : Pl w B b U) (hX : U.heap[X]? = some (.cells c 32 (0, 0))) (hw : w.heap.size ≤ X) : Pl w B b (U.setCell ⟨X, k, none⟩ v) := by
 have hk := Kp.set U X k v
 exact ⟨h.be.trans (hk.below h.be.size (fun j hj e => by omega)), h.bm.kept hk (fun j hj => h.bm.ne hX (by decide) (by decide) (by decide) hj), h.gb, h.nw⟩
theorem trd_take {es : List Ev} {j : Nat} (hj : j < es.length) : trd (es.take (j + 1)) = trd (es.take j) + (if es[j].kd = 3 then es[j].qt else 0) := by
 rw [List.take_succ_eq_append_getElem hj, trd_append]
 simp [trd]
theorem trd_take_le {es : List Ev} (h : Pos es) (j : Nat) : 0 ≤ trd (es.take j) ∧ trd (es.take j) ≤ trd es := by
 have h1 : Pos (es.take j) := fun e he => h e (List.mem_of_mem_take he)
 have h2 : Pos (es.drop j) := fun e he => h e (List.mem_of_mem_drop he)
 have a := trd_pos h1
 have c := trd_pos h2
 have e : trd es = trd (es.take j) + trd (es.drop j) := by rw [← trd_append, List.take_append_drop]
 omega
end
end Go.Proofs.Ytalgndgoedlpoaa
