/-
  AuctionAll: the walk.
-/
import Derived.Test.YtnmkfdndfhefiaaGreatPgA
namespace Go.Proofs.YtnmkfdndfhefiaaGreat
open Go.RowKit Go.Deep Go.Shelf
set_option linter.unusedVariables false
set_option linter.unusedSimpArgs false
set_option maxHeartbeats 16000000
set_option maxRecDepth 100000
attribute [local go_sem ↓] Go.wp_at_zero Go.wp_at_succ
theorem stepx {w0 w : World} {O : Nat → Prop} {X B : Nat} {r m : Int} {L : List It} {p1 : Option Addr} {c1 : Nat} {p2 : Option Addr} {c2 : Nat} {pL : Option Addr} {cL : Nat} (h : Pp w0 w O X B r m L p1 c1 p2 c2 pL cL) (ot : Bool) (x : It) (id n : Int) (k : Int) (hk : ¬ (0 ≤ k ∧ k ≤ 7)) :
    Calls Tryz.prog 6 #[.pointer (some ⟨X, 0, none⟩), .agg #[.int .i64 k, .bool ot, .int .u64 x.id, .int .u32 x.mb, .int .i64 x.sd, .int .i64 x.ty, .int .i64 x.pr, .int .u64 x.qt, .int .u64 id, .int .i64 n]] w fun e w' => e = .returned (.bool true) ∧ Nx w0 w w' O X := by
  obtain ⟨R, hR⟩ : ∃ R, w.heap.size = R := ⟨_, rfl⟩
  obtain ⟨W, hW⟩ : ∃ W, w.alloc (.cells #[.int .i64 k, .bool ot, .int .u64 x.id, .int .u32 x.mb, .int .i64 x.sd, .int .i64 x.ty, .int .i64 x.pr, .int .u64 x.qt, .int .u64 id, .int .i64 n] 37) = W := ⟨_, rfl⟩
  have HBW := hid (show Below w.heap.size w W from by rw [← hW]; exact ball _ _)
  have HO := hid (show W.heap[R]? = some (.cells #[.int .i64 k, .bool ot, .int .u64 x.id, .int .u32 x.mb, .int .i64 x.sd, .int .i64 x.ty, .int .i64 x.pr, .int .u64 x.qt, .int .u64 id, .int .i64 n] 37 (0, 0)) from by rw [← hW, ← hR]; exact World.alloc_heap_new _ _)
  have HP0 := hid h
  have HP := hid (h.on HBW.out)
  obtain ⟨nL, hnL⟩ : ∃ k, L.length = k := ⟨_, rfl⟩
  have HNL := hid hnL
  have HXR := hid (show W.heap[X]? = some (.cells #[.pointer (some ⟨B, 0, none⟩), .int .i64 r, .int .i64 m, .slice pL nL cL] 31 (0, 0)) from by have := HP.out.row; rw [hnL] at this; exact this)
  have HW := hid hW
  have HRR := hid hR
  have e0 : (k == 0) = false := by simp; omega
  have e1 : (k == 1) = false := by simp; omega
  have e2 : (k == 2) = false := by simp; omega
  have e3 : (k == 3) = false := by simp; omega
  have e4 : (k == 4) = false := by simp; omega
  have e5 : (k == 5) = false := by simp; omega
  have e6 : (k == 6) = false := by simp; omega
  have e7 : (k == 7) = false := by simp; omega
  clear hk
  clear h hW hR hnL
  go_enter Tryz.func6, Tryz.ntmps6
  go_upto_region 1 with fail
  rw [HW.out, HRR.out]
  have o0 : W.cell? ⟨R, 0, none⟩ = some (.int .i64 k) := row_cell HO.out 0
  go_wp2
  go_ret
  exact ⟨rfl, HP0.out.same HBW.out⟩
/-- an operation. -/
structure OpV where
  k : Int
  ot : Bool
  x : It
  id : Int
  n : Int
def orow (o : OpV) : Array Value := #[.int .i64 o.k, .bool o.ot, .int .u64 o.x.id, .int .u32 o.x.mb, .int .i64 o.x.sd, .int .i64 o.x.ty, .int .i64 o.x.pr, .int .u64 o.x.qt, .int .u64 o.id, .int .i64 o.n]
theorem step_all {w0 w : World} {O : Nat → Prop} {X : Nat} (h : Ps w0 w O X) (o : OpV) : Calls Tryz.prog 6 #[.pointer (some ⟨X, 0, none⟩), .agg #[.int .i64 o.k, .bool o.ot, .int .u64 o.x.id, .int .u32 o.x.mb, .int .i64 o.x.sd, .int .i64 o.x.ty, .int .i64 o.x.pr, .int .u64 o.x.qt, .int .u64 o.id, .int .i64 o.n]] w fun e w' => e = .returned (.bool true) ∧ Nx w0 w w' O X := by
  obtain ⟨B, r, m, L, p1, c1, p2, c2, pL, cL, h⟩ := h
  obtain ⟨k, ot, x, id, n⟩ := o
  dsimp only
  by_cases h0 : k = 0
  · subst h0; exact step0 h ot x id n
  by_cases h1 : k = 1
  · subst h1; exact step1 h ot x id n
  by_cases h2 : k = 2
  · subst h2; exact step2 h ot x id n
  by_cases h3 : k = 3
  · subst h3; exact step3 h ot x id n
  by_cases h4 : k = 4
  · subst h4; exact step4 h ot x id n
  by_cases h5 : k = 5
  · subst h5; exact step5 h ot x id n
  by_cases h6 : k = 6
  · subst h6; exact step6 h ot x id n
  by_cases h7 : k = 7
  · subst h7; exact step7 h ot x id n
  exact stepx h ot x id n k (by omega)
theorem Ps.listed {w0 w : World} {O : Nat → Prop} {X : Nat} (h : Ps w0 w O X) (s : Int) : Calls Tryz.prog 7 #[.pointer (some ⟨X, 0, none⟩), .int .i64 s] w fun e w' => e = .returned (.bool true) ∧ Nx w0 w w' O X := by
  obtain ⟨B, r, m, L, p1, c1, p2, c2, pL, cL, h⟩ := h
  exact listed_any h s
theorem Ps.kept {w0 w w' : World} {P O : Nat → Prop} {X : Nat} (h : Ps w0 w O X) (hk : Kp P w w') (hP : ∀ g, O g → ¬ P g) (h0 : ∀ g, g < w0.heap.size → ¬ P g) : Ps w0 w' O X := by
  obtain ⟨B, r, m, L, p1, c1, p2, c2, pL, cL, h⟩ := h
  exact ⟨B, r, m, L, p1, c1, p2, c2, pL, cL, h.kept hk hP h0⟩
theorem Ps.on {w0 w w' : World} {O : Nat → Prop} {X : Nat} (h : Ps w0 w O X) (hb : Below w.heap.size w w') : Ps w0 w' O X := by
  obtain ⟨B, r, m, L, p1, c1, p2, c2, pL, cL, h⟩ := h
  exact ⟨B, r, m, L, p1, c1, p2, c2, pL, cL, h.on hb⟩
theorem Ps.og {w0 w : World} {O : Nat → Prop} {X : Nat} (h : Ps w0 w O X) : ∀ g, O g → w0.heap.size ≤ g ∧ g < w.heap.size := by
  obtain ⟨B, r, m, L, p1, c1, p2, c2, pL, cL, h⟩ := h
  exact h.og
theorem Ps.be {w0 w : World} {O : Nat → Prop} {X : Nat} (h : Ps w0 w O X) : Below w0.heap.size w0 w := by
  obtain ⟨B, r, m, L, p1, c1, p2, c2, pL, cL, h⟩ := h
  exact h.be
theorem Ps.cell {w0 w : World} {O : Nat → Prop} {X : Nat} (h : Ps w0 w O X) : ∃ B, w.cell? ⟨X, 0, none⟩ = some (.pointer (some ⟨B, 0, none⟩)) := by
  obtain ⟨B, r, m, L, p1, c1, p2, c2, pL, cL, h⟩ := h
  exact ⟨B, row_cell h.row 0⟩
theorem Ps.base {w0 w1 w : World} {O : Nat → Prop} {X : Nat} (h : Ps w1 w O X) (hb : Below w0.heap.size w0 w1) : Ps w0 w O X := by
  obtain ⟨B, r, m, L, p1, c1, p2, c2, pL, cL, h⟩ := h
  exact ⟨B, r, m, L, p1, c1, p2, c2, pL, cL, h.row, h.cl, h.li, h.lk, btr hb h.be, h.ap, h.oX, h.oB, h.o1, h.oL, fun g hg => ⟨Nat.le_trans hb.size (h.og g hg).1, (h.og g hg).2⟩⟩
/-- two pairs, apart. -/
def Tw (w0 w : World) (X Y : Nat) : Prop := ∃ O O2, Ps w0 w O X ∧ Ps w0 w O2 Y ∧ ∀ g, O g → ¬ O2 g
theorem Tw.be {w0 w : World} {X Y : Nat} (h : Tw w0 w X Y) : Below w0.heap.size w0 w := by obtain ⟨O, O2, h1, _⟩ := h; exact h1.be
theorem Tw.symm {w0 w : World} {X Y : Nat} (h : Tw w0 w X Y) : Tw w0 w Y X := by obtain ⟨O, O2, h1, h2, h3⟩ := h; exact ⟨O2, O, h2, h1, fun g a b => h3 g b a⟩
theorem tw_next {w0 w w' : World} {O O2 : Nat → Prop} {X Y : Nat} (h : Ps w0 w O X) (h2 : Ps w0 w O2 Y) (h3 : ∀ g, O g → ¬ O2 g) (hn : Nx w0 w w' O X) : Tw w0 w' X Y := by
  obtain ⟨O', a1, a2, a3⟩ := hn
  refine ⟨O', O2, a1, h2.kept a2 (fun g hg e => h3 g e hg) (fun g hg e => by have := (h.og g e).1; omega), fun g hg h4 => ?_⟩
  rcases a3 g hg with e | e
  · exact h3 g e h4
  · have := (h2.og g h4).2; omega
theorem Tw.step {w0 w : World} {X Y : Nat} (h : Tw w0 w X Y) (o : OpV) : Calls Tryz.prog 6 #[.pointer (some ⟨X, 0, none⟩), .agg #[.int .i64 o.k, .bool o.ot, .int .u64 o.x.id, .int .u32 o.x.mb, .int .i64 o.x.sd, .int .i64 o.x.ty, .int .i64 o.x.pr, .int .u64 o.x.qt, .int .u64 o.id, .int .i64 o.n]] w fun e w' => e = .returned (.bool true) ∧ Hid (Tw w0 w' X Y) := by
  obtain ⟨O, O2, h1, h2, h3⟩ := h
  exact (step_all h1 o).mono (fun e w' hh => ⟨hh.1, hid (tw_next h1 h2 h3 hh.2)⟩)
theorem Tw.listed {w0 w : World} {X Y : Nat} (h : Tw w0 w X Y) (s : Int) : Calls Tryz.prog 7 #[.pointer (some ⟨X, 0, none⟩), .int .i64 s] w fun e w' => e = .returned (.bool true) ∧ Hid (Tw w0 w' X Y) := by
  obtain ⟨O, O2, h1, h2, h3⟩ := h
  exact (h1.listed s).mono (fun e w' hh => ⟨hh.1, hid (tw_next h1 h2 h3 hh.2)⟩)
theorem Tw.cells {w0 w : World} {X Y : Nat} (h : Tw w0 w X Y) : ∃ B B2, w.cell? ⟨X, 0, none⟩ = some (.pointer (some ⟨B, 0, none⟩)) ∧ w.cell? ⟨Y, 0, none⟩ = some (.pointer (some ⟨B2, 0, none⟩)) := by
  obtain ⟨O, O2, h1, h2, h3⟩ := h
  obtain ⟨B, e1⟩ := h1.cell
  obtain ⟨B2, e2⟩ := h2.cell
  exact ⟨B, B2, e1, e2⟩
/-- one pair, and one that could not be. -/
def Ow (w0 w : World) (X Y : Nat) : Prop := ∃ O, Ps w0 w O X ∧ ¬ O Y ∧ w.heap[Y]? = some (.cells #[.pointer none, .int .i64 0, .int .i64 0, .slice none 0 0] 31 (0, 0))
theorem Ow.be {w0 w : World} {X Y : Nat} (h : Ow w0 w X Y) : Below w0.heap.size w0 w := by obtain ⟨O, h1, _⟩ := h; exact h1.be
theorem ow_next {w0 w w' : World} {O : Nat → Prop} {X Y : Nat} (h2 : ¬ O Y) (h3 : w.heap[Y]? = some (.cells #[.pointer none, .int .i64 0, .int .i64 0, .slice none 0 0] 31 (0, 0))) (hn : Nx w0 w w' O X) : Ow w0 w' X Y := by
  obtain ⟨O', a1, a2, a3⟩ := hn
  refine ⟨O', a1, fun e => ?_, a2.row h3 h2⟩
  rcases a3 Y e with e | e
  · exact h2 e
  · have := row_lt h3; omega
theorem Ow.step {w0 w : World} {X Y : Nat} (h : Ow w0 w X Y) (o : OpV) : Calls Tryz.prog 6 #[.pointer (some ⟨X, 0, none⟩), .agg #[.int .i64 o.k, .bool o.ot, .int .u64 o.x.id, .int .u32 o.x.mb, .int .i64 o.x.sd, .int .i64 o.x.ty, .int .i64 o.x.pr, .int .u64 o.x.qt, .int .u64 o.id, .int .i64 o.n]] w fun e w' => e = .returned (.bool true) ∧ Hid (Ow w0 w' X Y) := by
  obtain ⟨O, h1, h2, h3⟩ := h
  exact (step_all h1 o).mono (fun e w' hh => ⟨hh.1, hid (ow_next h2 h3 hh.2)⟩)
theorem Ow.listed {w0 w : World} {X Y : Nat} (h : Ow w0 w X Y) (s : Int) : Calls Tryz.prog 7 #[.pointer (some ⟨X, 0, none⟩), .int .i64 s] w fun e w' => e = .returned (.bool true) ∧ Hid (Ow w0 w' X Y) := by
  obtain ⟨O, h1, h2, h3⟩ := h
  exact (h1.listed s).mono (fun e w' hh => ⟨hh.1, hid (ow_next h2 h3 hh.2)⟩)
theorem Ow.cells {w0 w : World} {X Y : Nat} (h : Ow w0 w X Y) : ∃ B, w.cell? ⟨X, 0, none⟩ = some (.pointer (some ⟨B, 0, none⟩)) ∧ w.cell? ⟨Y, 0, none⟩ = some (.pointer none) := by
  obtain ⟨O, h1, h2, h3⟩ := h
  obtain ⟨B, e1⟩ := h1.cell
  exact ⟨B, e1, row_cell h3 0⟩
/-- operations that came in. -/
def Oz (w : World) (q : Option Addr) (l : List OpV) : Prop := ∀ i (h : i < l.length), ∃ b off, q = some ⟨b, off, none⟩ ∧ b < w.heap.size ∧ ∀ j, j < 10 → w.cell? ⟨b, off + i * 10 + j, none⟩ = (orow l[i]).toList[j]?
theorem Oz.on {w w' : World} {q : Option Addr} {l : List OpV} (h : Oz w q l) (hb : Below w.heap.size w w') : Oz w' q l := fun i hi => by
  obtain ⟨b, off, e, hlt, hc⟩ := h i hi
  exact ⟨b, off, e, Nat.lt_of_lt_of_le hlt hb.size, fun j hj => (hb.cell (p := ⟨b, off + i * 10 + j, none⟩) hlt).trans (hc j hj)⟩
theorem Oz.cells {w : World} {q : Option Addr} {l : List OpV} (h : Oz w q l) {i : Nat} (hi : i < l.length) : ∃ b off, q = some ⟨b, off, none⟩ ∧ w.cell? ⟨b, off + i * 10, none⟩ = some (.int .i64 l[i].k) ∧ w.cell? ⟨b, off + i * 10 + 1, none⟩ = some (.bool l[i].ot) ∧ w.cell? ⟨b, off + i * 10 + 2, none⟩ = some (.int .u64 l[i].x.id) ∧ w.cell? ⟨b, off + i * 10 + 3, none⟩ = some (.int .u32 l[i].x.mb) ∧ w.cell? ⟨b, off + i * 10 + 4, none⟩ = some (.int .i64 l[i].x.sd) ∧ w.cell? ⟨b, off + i * 10 + 5, none⟩ = some (.int .i64 l[i].x.ty) ∧ w.cell? ⟨b, off + i * 10 + 6, none⟩ = some (.int .i64 l[i].x.pr) ∧ w.cell? ⟨b, off + i * 10 + 7, none⟩ = some (.int .u64 l[i].x.qt) ∧ w.cell? ⟨b, off + i * 10 + 8, none⟩ = some (.int .u64 l[i].id) ∧ w.cell? ⟨b, off + i * 10 + 9, none⟩ = some (.int .i64 l[i].n) := by
  obtain ⟨b, off, e, _, hc⟩ := h i hi
  exact ⟨b, off, e, hc 0 (by omega), hc 1 (by omega), hc 2 (by omega), hc 3 (by omega), hc 4 (by omega), hc 5 (by omega), hc 6 (by omega), hc 7 (by omega), hc 8 (by omega), hc 9 (by omega)⟩
theorem made_none (r m : Int) (w : World) (h : nwk r m = false) : Calls Tryz.prog 5 #[.int .i64 r, .int .i64 m] w fun e w' => ∃ X, e = .returned (.tuple #[.pointer (some ⟨X, 0, none⟩), .bool true]) ∧ Hid (w'.heap[X]? = some (.cells #[.pointer none, .int .i64 0, .int .i64 0, .slice none 0 0] 31 (0, 0))) ∧ Hid (w.heap.size ≤ X) ∧ Hid (Below w.heap.size w w') := by
  have C1 := hid (new_bad r m w h)
  have C2 := hid (rnew_bad r m w h)
  clear h
  go_enter Tryz.func5, Tryz.ntmps5
  go_wp2_with (first | (go_at_call 8; with_reducible refine (C1.out).mono ?_; rintro e w1 ⟨rfl, rfl⟩) | (go_at_call 9; with_reducible refine (C2.out).mono ?_; rintro e w2 ⟨rfl, hb⟩; have V2 := hid hb; clear hb))
  go_ret2
  have := World.alloc_heap_new (w2.alloc (.cells #[.int .i64 0, .int .i64 0, .slice none 0 0] 29)) (.cells #[.pointer none, .int .i64 0, .int .i64 0, .slice none 0 0] 31)
  have e : (w2.alloc (.cells #[.int .i64 0, .int .i64 0, .slice none 0 0] 29)).heap.size = w2.heap.size + 1 := by simp
  rw [e] at this
  exact ⟨w2.heap.size + 1, rfl, hid this, hid (Nat.le_succ_of_le V2.out.size), hid (btr V2.out (btr (ball _ _) (ball _ _)))⟩
theorem made_some (r m : Int) (w : World) (h : nwk r m = true) : Calls Tryz.prog 5 #[.int .i64 r, .int .i64 m] w fun e w' => ∃ X, e = .returned (.tuple #[.pointer (some ⟨X, 0, none⟩), .bool true]) ∧ Hid (∃ O, Ps w w' O X) :=
  (made_at r m w h).mono (fun e w' hh => by obtain ⟨X, B, h1, O, h2⟩ := hh; exact ⟨X, h1, hid ⟨O, _, _, _, _, _, _, _, _, _, _, h2⟩⟩)
theorem ptr_nn (U : World) (B : Nat) : (binOp .neq 26 (.pointer (some ⟨B, 0, none⟩)) (.pointer none)).run Tryz.prog U = .ok (.bool true) U := by kernel_rfl
theorem ptr_00 (U : World) : (binOp .eql 26 (.pointer none) (.pointer none)).run Tryz.prog U = .ok (.bool true) U := by kernel_rfl
theorem ptr_n0 (U : World) : (binOp .neq 26 (.pointer none) (.pointer none)).run Tryz.prog U = .ok (.bool false) U := by kernel_rfl
theorem all_none (r m : Int) (q : Option Addr) (cap : Nat) (l : List OpV) (w : World) (hw : nwk r m = false) : Calls Tryz.prog 3 #[.int .i64 r, .int .i64 m, .slice q l.length cap] w fun e w' => e = .returned (.bool true) ∧ Below w.heap.size w w' := by
  obtain ⟨k, hk⟩ : ∃ k, l.length = k := ⟨_, rfl⟩
  rw [hk]
  have CM := hid (made_none r m w hw)
  have CN : Hid (∀ U, Calls Tryz.prog 5 #[.int .i64 m, .int .i64 r] U fun e w' => ∃ X, e = .returned (.tuple #[.pointer (some ⟨X, 0, none⟩), .bool true]) ∧ Hid (Below U.heap.size U w')) := hid (fun U => by
    cases h2 : nwk m r with
    | false => exact (made_none m r U h2).mono (fun e w' hh => by obtain ⟨X, h1, _, _, h3⟩ := hh; exact ⟨X, h1, h3⟩)
    | true => exact (made_some m r U h2).mono (fun e w' hh => by obtain ⟨X, h1, h3⟩ := hh; exact ⟨X, h1, hid (by obtain ⟨O, h4⟩ := h3.out; exact h4.be)⟩))
  have p0 := ptr_00
  clear hw hk
  go_enter Tryz.func3, Tryz.ntmps3
  go_upto_region 2 with (go_at_call 5; with_reducible refine (CM.out).mono ?_; rintro e w1 ⟨X, rfl, HX, HG, V1⟩)
  go_upto_region 3 with (go_at_call 5; with_reducible refine (CN.out _).mono ?_; rintro e w2 ⟨Y, rfl, V2⟩)
  have k0 : w2.cell? ⟨X, 0, none⟩ = some (.pointer none) := row_cell (row_on HX.out V2.out) 0
  go_wp2
  go_ret
  exact ⟨rfl, btr V1.out V2.out⟩
theorem all_one (r m : Int) (q : Option Addr) (cap : Nat) (l : List OpV) (w : World) (h : Oz w q l) (hm : l.length ≤ maxLen) (hw : nwk r m = true) (hv : nwk m r = false) : Calls Tryz.prog 3 #[.int .i64 r, .int .i64 m, .slice q l.length cap] w fun e w' => e = .returned (.bool true) ∧ Below w.heap.size w w' := by
  obtain ⟨k, hk⟩ : ∃ k, l.length = k := ⟨_, rfl⟩
  have HKK := hid hk
  unfold maxLen at hm
  rw [hk] at hm ⊢
  have CM := hid (made_some r m w hw)
  have CN := hid (fun U => made_none m r U hv)
  have HOZ := hid h
  have SX := hid (show ∀ (X Y : Nat) (U : World) (o : OpV), Ow w U X Y → Calls Tryz.prog 6 #[.pointer (some ⟨X, 0, none⟩), .agg #[.int .i64 o.k, .bool o.ot, .int .u64 o.x.id, .int .u32 o.x.mb, .int .i64 o.x.sd, .int .i64 o.x.ty, .int .i64 o.x.pr, .int .u64 o.x.qt, .int .u64 o.id, .int .i64 o.n]] U fun e w' => e = .returned (.bool true) ∧ Hid (Ow w w' X Y) from fun X Y U o hU => hU.step o)
  have LX := hid (show ∀ (X Y : Nat) (U : World) (s : Int), Ow w U X Y → Calls Tryz.prog 7 #[.pointer (some ⟨X, 0, none⟩), .int .i64 s] U fun e w' => e = .returned (.bool true) ∧ Hid (Ow w w' X Y) from fun X Y U s hU => hU.listed s)
  have S5 := hid (show ∀ (X Y : Nat) (U : World), Ow w U X Y → Calls Tryz.prog 6 #[.pointer (some ⟨X, 0, none⟩), .agg #[.int .i64 5, .bool false, .int .u64 0, .int .u32 0, .int .i64 0, .int .i64 0, .int .i64 0, .int .u64 0, .int .u64 0, .int .i64 0]] U fun e w' => e = .returned (.bool true) ∧ Hid (Ow w w' X Y) from fun X Y U hU => hU.step ⟨5, false, ⟨0, 0, 0, 0, 0, 0⟩, 0, 0⟩)
  clear hw hk h hv
  go_enter Tryz.func3, Tryz.ntmps3
  go_upto_region 2 with (go_at_call 5; with_reducible refine (CM.out).mono ?_; rintro e w1 ⟨X, rfl, HP⟩)
  go_upto_region 3 with (go_at_call 5; with_reducible refine (CN.out _).mono ?_; rintro e w2 ⟨Y, rfl, HY, HYG, V2⟩)
  have HT := hid (show Ow w w2 X Y from by
    obtain ⟨O, h1⟩ := HP.out
    exact ⟨O, h1.on V2.out, fun e => by have := (h1.og Y e).2; have := HYG.out; omega, HY.out⟩)
  obtain ⟨B, k0, k1⟩ := HT.out.cells
  have pe : ∀ U, (binOp .eql 26 (.pointer (some ⟨B, 0, none⟩)) (.pointer none)).run Tryz.prog U = .ok (.bool false) U := fun U => ptr_nil U B
  go_upto_region 6 with fail
  clear k0 k1 pe CM CN
  go_loopw [11] (fun iv wr => ∃ i : Nat, i ≤ k ∧ iv = .int .i64 i ∧ Hid (Ow w wr X Y)) (fun iv _ => k - (intOf iv).toNat)
  case atStart => exact ⟨0, Nat.zero_le _, rfl, HT⟩
  case round =>
    obtain ⟨i, hik, rfl, HPi⟩ := hrel
    by_cases hlt : i < k
    · have hil : i < l.length := by rw [HKK.out]; exact hlt
      obtain ⟨b, off, hq, a0, a1, a2, a3, a4, a5, a6, a7, a8, a9⟩ := (HOZ.out.on HPi.out.be).cells hil
      subst hq
      obtain ⟨o, ho⟩ : ∃ z, l[i] = z := ⟨_, rfl⟩
      rw [ho] at a0 a1 a2 a3 a4 a5 a6 a7 a8 a9
      have i0' : (0 : Int) ≤ (i : Int) := by omega
      have i1 : (i : Int) < (k : Int) := by omega
      obtain ⟨B, k0, k1⟩ := HPi.out.cells
      have pn := ptr_n0
      clear ho
      cases hot : o.ot with
      | false =>
        rw [hot] at a1
        have hSX := hid (SX.out X Y wr o HPi.out)
        rw [hot] at hSX
        clear hot
        go_wp2_with (go_at_call 6; with_reducible refine (hSX.out).mono ?_; rintro e w3 ⟨rfl, HP2⟩)
        go_roundw
        case rel => exact ⟨i + 1, by omega, by go_num, HP2⟩
        case measure => simp [intOf]; omega
      | true =>
        rw [hot] at a1
        have hSX := hid (SX.out X Y wr o HPi.out)
        rw [hot] at hSX
        clear hot
        go_wp2_with (go_at_call 6; with_reducible refine (hSX.out).mono ?_; rintro e w3 ⟨rfl, HP2⟩)
        go_roundw
        case rel => exact ⟨i + 1, by omega, by go_num, HP2⟩
        case measure => simp [intOf]; omega
    · obtain rfl : i = k := by omega
      have p0 := ptr_00
      go_wp2_with (first | (go_at_call 7; with_reducible refine (LX.out X Y _ 1 HPi.out).mono ?_; rintro e v4 ⟨rfl, P4⟩) | (go_at_call 7; with_reducible refine (LX.out X Y _ 2 P4.out).mono ?_; rintro e v5 ⟨rfl, P5⟩) | (go_at_call 6; with_reducible refine (S5.out X Y _ P5.out).mono ?_; rintro e v6 ⟨rfl, P6⟩; obtain ⟨B6, c0, c1⟩ := P6.out.cells))
      go_ret
      exact ⟨rfl, P6.out.be⟩
theorem all_two (r m : Int) (q : Option Addr) (cap : Nat) (l : List OpV) (w : World) (h : Oz w q l) (hm : l.length ≤ maxLen) (hw : nwk r m = true) (hv : nwk m r = true) : Calls Tryz.prog 3 #[.int .i64 r, .int .i64 m, .slice q l.length cap] w fun e w' => e = .returned (.bool true) ∧ Below w.heap.size w w' := by
  obtain ⟨k, hk⟩ : ∃ k, l.length = k := ⟨_, rfl⟩
  have HKK := hid hk
  unfold maxLen at hm
  rw [hk] at hm ⊢
  have CM := hid (made_some r m w hw)
  have CN := hid (fun U => made_some m r U hv)
  have HOZ := hid h
  have SX := hid (show ∀ (X Y : Nat) (U : World) (o : OpV), Tw w U X Y → Calls Tryz.prog 6 #[.pointer (some ⟨X, 0, none⟩), .agg #[.int .i64 o.k, .bool o.ot, .int .u64 o.x.id, .int .u32 o.x.mb, .int .i64 o.x.sd, .int .i64 o.x.ty, .int .i64 o.x.pr, .int .u64 o.x.qt, .int .u64 o.id, .int .i64 o.n]] U fun e w' => e = .returned (.bool true) ∧ Hid (Tw w w' X Y) from fun X Y U o hU => hU.step o)
  have LX := hid (show ∀ (X Y : Nat) (U : World) (s : Int), Tw w U X Y → Calls Tryz.prog 7 #[.pointer (some ⟨X, 0, none⟩), .int .i64 s] U fun e w' => e = .returned (.bool true) ∧ Hid (Tw w w' X Y) from fun X Y U s hU => hU.listed s)
  have S5 := hid (show ∀ (X Y : Nat) (U : World), Tw w U X Y → Calls Tryz.prog 6 #[.pointer (some ⟨X, 0, none⟩), .agg #[.int .i64 5, .bool false, .int .u64 0, .int .u32 0, .int .i64 0, .int .i64 0, .int .i64 0, .int .u64 0, .int .u64 0, .int .i64 0]] U fun e w' => e = .returned (.bool true) ∧ Hid (Tw w w' X Y) from fun X Y U hU => hU.step ⟨5, false, ⟨0, 0, 0, 0, 0, 0⟩, 0, 0⟩)
  have SY := hid (show ∀ (X Y : Nat) (U : World) (o : OpV), Tw w U X Y → Calls Tryz.prog 6 #[.pointer (some ⟨Y, 0, none⟩), .agg #[.int .i64 o.k, .bool o.ot, .int .u64 o.x.id, .int .u32 o.x.mb, .int .i64 o.x.sd, .int .i64 o.x.ty, .int .i64 o.x.pr, .int .u64 o.x.qt, .int .u64 o.id, .int .i64 o.n]] U fun e w' => e = .returned (.bool true) ∧ Hid (Tw w w' X Y) from fun X Y U o hU => (hU.symm.step o).mono (fun e w' hh => ⟨hh.1, hid hh.2.out.symm⟩))
  have LY := hid (show ∀ (X Y : Nat) (U : World) (s : Int), Tw w U X Y → Calls Tryz.prog 7 #[.pointer (some ⟨Y, 0, none⟩), .int .i64 s] U fun e w' => e = .returned (.bool true) ∧ Hid (Tw w w' X Y) from fun X Y U s hU => (hU.symm.listed s).mono (fun e w' hh => ⟨hh.1, hid hh.2.out.symm⟩))
  clear hw hk h hv
  go_enter Tryz.func3, Tryz.ntmps3
  go_upto_region 2 with (go_at_call 5; with_reducible refine (CM.out).mono ?_; rintro e w1 ⟨X, rfl, HP⟩)
  go_upto_region 3 with (go_at_call 5; with_reducible refine (CN.out _).mono ?_; rintro e w2 ⟨Y, rfl, HY⟩)
  have HT := hid (show Tw w w2 X Y from by
    obtain ⟨O, h1⟩ := HP.out
    obtain ⟨O2, h2⟩ := HY.out
    exact ⟨O, O2, h1.on h2.be, h2.base h1.be, fun g a b => by have := (h1.og g a).2; have := (h2.og g b).1; omega⟩)
  obtain ⟨B, B2, k0, k1⟩ := HT.out.cells
  have pe : ∀ U, (binOp .eql 26 (.pointer (some ⟨B, 0, none⟩)) (.pointer none)).run Tryz.prog U = .ok (.bool false) U := fun U => ptr_nil U B
  go_upto_region 6 with fail
  clear k0 k1 pe CM CN
  go_loopw [11] (fun iv wr => ∃ i : Nat, i ≤ k ∧ iv = .int .i64 i ∧ Hid (Tw w wr X Y)) (fun iv _ => k - (intOf iv).toNat)
  case atStart => exact ⟨0, Nat.zero_le _, rfl, HT⟩
  case round =>
    obtain ⟨i, hik, rfl, HPi⟩ := hrel
    by_cases hlt : i < k
    · have hil : i < l.length := by rw [HKK.out]; exact hlt
      obtain ⟨b, off, hq, a0, a1, a2, a3, a4, a5, a6, a7, a8, a9⟩ := (HOZ.out.on HPi.out.be).cells hil
      subst hq
      obtain ⟨o, ho⟩ : ∃ z, l[i] = z := ⟨_, rfl⟩
      rw [ho] at a0 a1 a2 a3 a4 a5 a6 a7 a8 a9
      have i0' : (0 : Int) ≤ (i : Int) := by omega
      have i1 : (i : Int) < (k : Int) := by omega
      obtain ⟨B, B2, k0, k1⟩ := HPi.out.cells
      have pn : ∀ U, (binOp .neq 26 (.pointer (some ⟨B2, 0, none⟩)) (.pointer none)).run Tryz.prog U = .ok (.bool true) U := fun U => ptr_nn U B2
      clear ho
      cases hot : o.ot with
      | false =>
        rw [hot] at a1
        have hSX := hid (SX.out X Y wr o HPi.out)
        rw [hot] at hSX
        clear hot
        go_wp2_with (go_at_call 6; with_reducible refine (hSX.out).mono ?_; rintro e w3 ⟨rfl, HP2⟩)
        go_roundw
        case rel => exact ⟨i + 1, by omega, by go_num, HP2⟩
        case measure => simp [intOf]; omega
      | true =>
        rw [hot] at a1
        have hSX := hid (SY.out X Y wr o HPi.out)
        rw [hot] at hSX
        clear hot
        go_wp2_with (go_at_call 6; with_reducible refine (hSX.out).mono ?_; rintro e w3 ⟨rfl, HP2⟩)
        go_roundw
        case rel => exact ⟨i + 1, by omega, by go_num, HP2⟩
        case measure => simp [intOf]; omega
    · obtain rfl : i = k := by omega
      go_wp2_with (first | (go_at_call 7; with_reducible refine (LX.out X Y _ 1 HPi.out).mono ?_; rintro e v4 ⟨rfl, P4⟩) | (go_at_call 7; with_reducible refine (LX.out X Y _ 2 P4.out).mono ?_; rintro e v5 ⟨rfl, P5⟩) | (go_at_call 6; with_reducible refine (S5.out X Y _ P5.out).mono ?_; rintro e v6 ⟨rfl, P6⟩; obtain ⟨B6, B7, c0, c1⟩ := P6.out.cells; have pe : ∀ U, (binOp .eql 26 (.pointer (some ⟨B7, 0, none⟩)) (.pointer none)).run Tryz.prog U = .ok (.bool false) U := fun U => ptr_nil U B7) | (go_at_call 7; with_reducible refine (LY.out X Y _ 1 P6.out).mono ?_; rintro e v7 ⟨rfl, P7⟩) | (go_at_call 7; with_reducible refine (LY.out X Y _ 2 P7.out).mono ?_; rintro e v8 ⟨rfl, P8⟩))
      go_ret
      exact ⟨rfl, P8.out.be⟩
theorem all_walk (r m : Int) (q : Option Addr) (cap : Nat) (l : List OpV) (w : World) (h : Oz w q l) (hm : l.length ≤ maxLen) : Calls Tryz.prog 3 #[.int .i64 r, .int .i64 m, .slice q l.length cap] w fun e w' => e = .returned (.bool true) ∧ Below w.heap.size w w' := by
  cases hw : nwk r m with
  | false => exact all_none r m q cap l w hw
  | true =>
    cases hv : nwk m r with
    | false => exact all_one r m q cap l w h hm hw hv
    | true => exact all_two r m q cap l w h hm hw hv
end Go.Proofs.YtnmkfdndfhefiaaGreat
