/-
  SrA
-/
import Derived.Test.YtlhbgaiiehljpaaGreatProg
import Derived.WalkKit
import Derived.Deep.RegionHeld3
import Derived.Deep.DrawnRows
import Derived.Deep.Cut
import Derived.BigQuiet
import Derived.WalkLawsBesides
import Derived.RowKit3
import Derived.Deep.OwnRows
import Derived.Deep.QuietTactic
import Derived.Deep.RegionLaw
import Derived.Below
import Derived.Laws.Rows
import Derived.Laws.NewBlocks
import Derived.Shelf.Strconv.Itoa0
import Derived.Lib.SmallJoins
import Derived.RangeFuncRecord
namespace Go.Proofs.YtlhbgaiiehljpaaGreat.Sr
open Go.RowKit Go.Deep
set_option linter.unusedVariables false
set_option linter.unusedSimpArgs false
set_option maxHeartbeats 4000000
set_option maxRecDepth 100000
theorem hid {p : Prop} (h : p) : Hid p := h
theorem row_cell {w : World} {g : Nat} {t : TypeId} {cs : Array Value} (h : w.heap[g]? = some (.cells cs t (0, 0))) (j : Nat) : w.cell? ⟨g, j, none⟩ = cs[j]? := cell_of_row w g j cs t (0, 0) h
theorem row_frz {w : World} {g : Nat} {t : TypeId} {cs : Array Value} (h : w.heap[g]? = some (.cells cs t (0, 0))) (j : Nat) : w.frozen? ⟨g, j, none⟩ = false := frozen_of_row w g j cs t h
theorem row_lt {w : World} {g : Nat} {o : Obj} (h : w.heap[g]? = some o) : g < w.heap.size := (Array.getElem?_eq_some_iff.1 h).1
/-- all blocks but some are as they were. -/
structure Kp (B : Nat → Prop) (w w' : World) : Prop where
 os : w'.os = w.os
 tape : w'.tape = w.tape
 output : w'.output = w.output
 size : w.heap.size ≤ w'.heap.size
 obj : ∀ g, g < w.heap.size → ¬ B g → w'.heap[g]? = w.heap[g]?
theorem Kp.refl (B : Nat → Prop) (w : World) : Kp B w w := ⟨rfl, rfl, rfl, Nat.le_refl _, fun _ _ _ => rfl⟩
theorem Kp.trans {B C : Nat → Prop} {a b c : World} (h : Kp B a b) (k : Kp C b c) (hC : ∀ g, g < a.heap.size → C g → B g) : Kp B a c :=
 ⟨k.os.trans h.os, k.tape.trans h.tape, k.output.trans h.output, Nat.le_trans h.size k.size, fun g hg hB => (k.obj g (Nat.lt_of_lt_of_le hg h.size) (fun e => hB (hC g hg e))).trans (h.obj g hg hB)⟩
theorem Kp.drew (B : Nat → Prop) (w : World) : Kp B w w.drew := ⟨rfl, rfl, rfl, Nat.le_refl _, fun _ _ _ => rfl⟩
theorem Kp.drewN (B : Nat → Prop) (w : World) (n : Nat) : Kp B w (w.drewN n) := ⟨rfl, rfl, rfl, Nat.le_refl _, fun _ _ _ => rfl⟩
theorem Kp.of {w w' : World} (B : Nat → Prop) (h : Below w.heap.size w w') : Kp B w w' := ⟨h.os, h.tape, h.output, h.size, fun g hg _ => h.block g hg⟩
theorem Kp.set (w : World) (N i : Nat) (v : Value) : Kp (fun b => b = N) w (w.setCell ⟨N, i, none⟩ v) :=
 ⟨rfl, rfl, rfl, by simp [World.setCell], fun b _ hb => heap_setCell_other _ _ _ _ (by show b ≠ N; exact hb)⟩
/-- a number of a list. -/
def gd (l : List Int) (i : Nat) : Int := l.getD i 0
/-- numbers in a block, the first n of them l. -/
structure Uz (w : World) (g n : Nat) (l : List Int) : Prop where
 len : l.length = n
 row : ∃ cur, w.heap[g]? = some (.cells cur 36 (0, 0)) ∧ n ≤ cur.size ∧ ∀ i, i < n → cur[i]? = some (.int .u32 (gd l i))
theorem Uz.cell {w : World} {g n : Nat} {l : List Int} (h : Uz w g n l) {i : Nat} (hi : i < n) : w.cell? ⟨g, i, none⟩ = some (.int .u32 (gd l i)) := by
 obtain ⟨cur, h1, h2, h3⟩ := h.row
 rw [row_cell h1, h3 i hi]
theorem Uz.frz {w : World} {g n : Nat} {l : List Int} (h : Uz w g n l) (i : Nat) : w.frozen? ⟨g, i, none⟩ = false := by
 obtain ⟨cur, h1, h2, h3⟩ := h.row
 exact row_frz h1 i
theorem Uz.same {w w' : World} {g n : Nat} {l : List Int} (h : Uz w g n l) (e : w'.heap[g]? = w.heap[g]?) : Uz w' g n l := by
 obtain ⟨cur, h1, h2, h3⟩ := h.row
 exact ⟨h.len, cur, e.trans h1, h2, h3⟩
theorem Uz.set {w : World} {g n : Nat} {l : List Int} (h : Uz w g n l) {i : Nat} (hi : i < n) (v : Int) : Uz (w.setCell ⟨g, i, none⟩ (.int .u32 v)) g n (l.set i v) := by
 obtain ⟨cur, h1, h2, h3⟩ := h.row
 refine ⟨by rw [List.length_set]; exact h.len, _, heap_setCell_same w g i cur 36 (.int .u32 v) h1, by simpa using h2, fun j hj => ?_⟩
 have hl := h.len
 by_cases e : i = j
 ·subst e
  rw [Array.getElem?_setIfInBounds_self_of_lt (by omega)]
  unfold gd
  rw [List.getD_eq_getElem?_getD, List.getElem?_set_self (by omega)]
  rfl
 ·rw [Array.getElem?_setIfInBounds_ne e, h3 j hj]
  unfold gd
  rw [List.getD_eq_getElem?_getD, List.getD_eq_getElem?_getD, List.getElem?_set_ne e]
/-- two change places. -/
def sw (l : List Int) (i j : Nat) : List Int := (l.set i (gd l j)).set j (gd l i)
theorem sw_perm {l : List Int} {i j : Nat} (hi : i < l.length) (hj : j < l.length) : (sw l i j).Perm l := by
 have e1 : gd l i = l[i] := by unfold gd; rw [List.getD_eq_getElem?_getD, List.getElem?_eq_getElem hi]; rfl
 have e2 : gd l j = l[j] := by unfold gd; rw [List.getD_eq_getElem?_getD, List.getElem?_eq_getElem hj]; rfl
 unfold sw
 rw [e1, e2]
 exact List.set_set_perm hi hj
/-- what stands between two steps: some order of the numbers. -/
def Sz (w0 w : World) (g n : Nat) (l0 : List Int) : Prop := ∃ l, l.Perm l0 ∧ Uz w g n l ∧ Kp (fun b => b = g) w0 w
theorem Sz.drew {w0 w : World} {g n : Nat} {l0 : List Int} (h : Sz w0 w g n l0) : Sz w0 w.drew g n l0 := by
 obtain ⟨l, h1, h2, h3⟩ := h
 exact ⟨l, h1, h2.same rfl, h3.trans (Kp.drew _ _) (fun _ _ e => e)⟩
theorem Sz.drewN {w0 w : World} {g n : Nat} {l0 : List Int} (h : Sz w0 w g n l0) (k : Nat) : Sz w0 (w.drewN k) g n l0 := by
 obtain ⟨l, h1, h2, h3⟩ := h
 exact ⟨l, h1, h2.same rfl, h3.trans (Kp.drewN _ _ k) (fun _ _ e => e)⟩
theorem Sz.on {w0 w w' : World} {g n : Nat} {l0 : List Int} (h : Sz w0 w g n l0) (hb : Below w.heap.size w w') : Sz w0 w' g n l0 := by
 obtain ⟨l, h1, h2, h3⟩ := h
 obtain ⟨cur, e, _⟩ := h2.row
 exact ⟨l, h1, h2.same (hb.block g (row_lt e)), h3.trans (Kp.of _ hb) (fun _ _ e => e)⟩
theorem Sz.trans {w0 w w' : World} {g n : Nat} {l0 l : List Int} (h1 : l.Perm l0) (h3 : Kp (fun b => b = g) w0 w) (h : Sz w w' g n l) : Sz w0 w' g n l0 := by
 obtain ⟨l', a1, a2, a3⟩ := h
 exact ⟨l', a1.trans h1, a2, h3.trans a3 (fun _ _ e => e)⟩
/-- two change places in memory. -/
theorem Sz.swap {w0 w : World} {g n : Nat} {l0 l : List Int} (h1 : l.Perm l0) (h2 : Uz w g n l) (h3 : Kp (fun b => b = g) w0 w) {i j : Nat} (hi : i < n) (hj : j < n) : Sz w0 ((w.setCell ⟨g, i, none⟩ (.int .u32 (gd l j))).setCell ⟨g, j, none⟩ (.int .u32 (gd l i))) g n l0 :=
 ⟨sw l i j, (sw_perm (by rw [h2.len]; exact hi) (by rw [h2.len]; exact hj)).trans h1, (h2.set hi _).set hj _, (h3.trans (Kp.set w g i _) (fun _ _ e => e)).trans (Kp.set _ g j _) (fun _ _ e => e)⟩
/-- many temporaries are written at once. -/
def puts (a : Act) (ds : List Nat) (t : Nat → Value) : Act := ds.foldl (fun a d => a.put (some d) (t d)) a
/-- a cut behind a region: of its temporaries nothing is known there. -/
theorem reg_any {P : Program} {id : Nat} {ops : Array Oper} {b : Bool} {Q : Exit → Act → World → Prop} {a : Act} {w : World} (ds : List Nat) (T : World → Prop)
  (h1 : (Code.region id ops b).wp P (fun e a' w' => match e with | .normal => a' = puts a ds (fun d => a'.tmps.getD d undef) ∧ T w' | _ => False) a w)
  (h2 : ∀ t w', T w' → Q .normal (puts a ds t) w') : (Code.region id ops b).wp P Q a w :=
 wp_mono h1 (fun e a' w' h => by
  cases e with
  | normal => obtain ⟨h3, ht⟩ := h; rw [h3]; exact h2 _ w' ht
  | _ => exact h.elim)
theorem less_any (x y : Int) (w : World) : Calls Tryz.prog 106 #[.int .u32 x, .int .u32 y] w fun e w' => e = .returned (.bool (decide (x < y))) ∧ w' = w := by
 have CN := hid (show ∀ (x : Int) (U : World), Calls Tryz.prog 78 #[.int .u32 x] U fun e w' => e = .returned (.bool false) ∧ w' = U from fun x U => by
  go_enter Tryz.func78, Tryz.ntmps78
  go_wp2
  go_ret
  simp)
 go_enter Tryz.func106, Tryz.ntmps106
 go_wp2_with (go_at_call 78; with_reducible refine (CN.out _ _).mono ?_; rintro e w1 ⟨rfl, rfl⟩)
 go_ret
 exact ⟨rfl, rfl⟩
end Go.Proofs.YtlhbgaiiehljpaaGreat.Sr
namespace Go.Proofs.YtlhbgaiiehljpaaGreat.Sr
open Go.RowKit Go.Deep
set_option linter.unusedVariables false
set_option linter.unusedSimpArgs false
set_option maxHeartbeats 8000000
set_option maxRecDepth 100000
/-- a counter in a block of its own beside the numbers. -/
structure Cz (w : World) (g n : Nat) (l : List Int) (s : Nat) : Prop where
 uz : Uz w g n l
 ct : ∃ k : Int, w.heap[s]? = some (.cells #[.int .i64 k] 3 (0, 0))
theorem Cz.ne {w : World} {g n : Nat} {l : List Int} {s : Nat} (h : Cz w g n l s) : g ≠ s := by
 rintro rfl
 obtain ⟨cur, h1, _⟩ := h.uz.row
 obtain ⟨k, h2⟩ := h.ct
 rw [h1] at h2
 injection h2 with h2
 injection h2 with _ h2
 exact absurd h2 (by decide)
theorem Cz.drewN {w : World} {g n : Nat} {l : List Int} {s : Nat} (h : Cz w g n l s) (k : Nat) : Cz (w.drewN k) g n l s := ⟨h.uz.same rfl, h.ct⟩
theorem ord2_any (g cap n : Nat) (l : List Int) (a b s : Nat) (w : World) (h : Cz w g n l s) (ha : a < n) (hb : b < n) :
  Calls Tryz.prog 125 #[.slice (some ⟨g, 0, none⟩) n cap, .int .i64 a, .int .i64 b, .pointer (some ⟨s, 0, none⟩)] w fun e w' => ∃ x y : Nat, e = .returned (.tuple #[.int .i64 x, .int .i64 y]) ∧ ((x = a ∧ y = b) ∨ (x = b ∧ y = a)) ∧ Cz w' g n l s ∧ Kp (fun j => j = s) w w' := by
 have HC := hid h
 have HNE := hid h.ne
 obtain ⟨k, hk⟩ := h.ct
 have HK := hid hk
 obtain ⟨y, hy⟩ : ∃ y, gd l a = y := ⟨_, rfl⟩
 obtain ⟨z, hz⟩ : ∃ y, gd l b = y := ⟨_, rfl⟩
 have cy : w.cell? ⟨g, a, none⟩ = some (.int .u32 y) := by rw [← hy]; exact h.uz.cell ha
 have cz : w.cell? ⟨g, b, none⟩ = some (.int .u32 z) := by rw [← hz]; exact h.uz.cell hb
 have a0' : (0 : Int) ≤ (a : Int) := by omega
 have a2 : (a : Int) < (n : Int) := by omega
 have b0' : (0 : Int) ≤ (b : Int) := by omega
 have b2 : (b : Int) < (n : Int) := by omega
 clear h hy hz hk
 go_enter Tryz.func125, Tryz.ntmps125
 go_upto_region 1 with fail
 go_quiet (first | (go_at_call 106; with_reducible exact Calls.quiet_of_same (less_any _ _ _)))
 cases hb : decide (z < y) with
 | true =>
  have c0 : (w.drewN nq).cell? ⟨s, 0, none⟩ = some (.int .i64 k) := row_cell (w := w.drewN nq) HK.out 0
  have f0 : (w.drewN nq).frozen? ⟨s, 0, none⟩ = false := row_frz (w := w.drewN nq) HK.out 0
  clear hb cy cz
  go_wp2
  go_ret2
  refine ⟨b, a, rfl, .inr ⟨rfl, rfl⟩, ?_, ?_⟩
  ·have hk2 := fun v => Kp.set (w.drewN nq) s 0 v
   obtain ⟨cur, h1, _⟩ := HC.out.uz.row
   refine ⟨(HC.out.uz.same (w' := w.drewN nq) rfl).same ((hk2 _).obj g (row_lt (w := w.drewN nq) h1) HNE.out), _, heap_setCell_same (w.drewN nq) s 0 _ _ _ HK.out⟩
  ·exact (Kp.drewN _ w nq).trans (Kp.set _ s 0 _) (fun _ _ e => e)
 | false =>
  clear hb cy cz
  go_wp2
  go_ret2
  exact ⟨a, b, rfl, .inl ⟨rfl, rfl⟩, HC.out.drewN nq, Kp.drewN _ w nq⟩
theorem med_any (g cap n : Nat) (l : List Int) (a b c s : Nat) (w : World) (h : Cz w g n l s) (ha : a < n) (hb : b < n) (hc : c < n) :
  Calls Tryz.prog 121 #[.slice (some ⟨g, 0, none⟩) n cap, .int .i64 a, .int .i64 b, .int .i64 c, .pointer (some ⟨s, 0, none⟩)] w fun e w' => ∃ x : Nat, e = .returned (.int .i64 x) ∧ (x = a ∨ x = b ∨ x = c) ∧ Cz w' g n l s ∧ Kp (fun j => j = s) w w' := by
 have HC := hid h
 have C2 := hid (show ∀ (U : World) (a b : Nat), a < n → b < n → Cz U g n l s → Calls Tryz.prog 125 #[.slice (some ⟨g, 0, none⟩) n cap, .int .i64 a, .int .i64 b, .pointer (some ⟨s, 0, none⟩)] U fun e w' => ∃ x y : Nat, e = .returned (.tuple #[.int .i64 x, .int .i64 y]) ∧ Hid ((x = a ∧ y = b) ∨ (x = b ∧ y = a)) ∧ Hid (Cz w' g n l s) ∧ Hid (Kp (fun j => j = s) U w') from fun U a b h1 h2 h3 => (ord2_any g cap n l a b s U h3 h1 h2))
 have C1 := hid (C2.out w a b ha hb HC.out)
 clear h
 go_enter Tryz.func121, Tryz.ntmps121
 go_upto_region 2 with (go_at_call 125; with_reducible refine (C1.out).mono ?_; rintro e v1 ⟨x1, y1, rfl, E1, Z1, K1⟩)
 have hx1 : x1 < n ∧ y1 < n := by have := E1.out; omega
 have C3 := hid (C2.out v1 y1 c hx1.2 hc Z1.out)
 go_upto_region 3 with (go_at_call 125; with_reducible refine (C3.out).mono ?_; rintro e v2 ⟨x2, y2, rfl, E2, Z2, K2⟩)
 have hx2 : x2 < n ∧ y2 < n := by have := E2.out; omega
 have C4 := hid (C2.out v2 x1 x2 hx1.1 hx2.1 Z2.out)
 go_wp2_with (go_at_call 125; with_reducible refine (C4.out).mono ?_; rintro e v3 ⟨x3, y3, rfl, E3, Z3, K3⟩)
 go_ret
 refine ⟨y3, rfl, ?_, Z3.out, (K1.out.trans K2.out (fun _ _ e => e)).trans K3.out (fun _ _ e => e)⟩
 have := E1.out
 have := E2.out
 have := E3.out
 omega
theorem madj_any (g cap n : Nat) (l : List Int) (a s : Nat) (w : World) (h : Cz w g n l s) (ha : 1 ≤ a) (hb : a + 1 < n) (hn : n ≤ 1152921504606846976) :
  Calls Tryz.prog 120 #[.slice (some ⟨g, 0, none⟩) n cap, .int .i64 a, .pointer (some ⟨s, 0, none⟩)] w fun e w' => ∃ x : Nat, e = .returned (.int .i64 x) ∧ Hid (a ≤ x + 1 ∧ x ≤ a + 1) ∧ Hid (Cz w' g n l s) ∧ Hid (Kp (fun j => j = s) w w') := by
 obtain ⟨p, hp⟩ : ∃ p, a = p + 1 := ⟨a - 1, by omega⟩
 obtain ⟨q, hq⟩ : ∃ q, q = a + 1 := ⟨_, rfl⟩
 have w1 : IntKind.i64.wrap ((a : Int) - 1) = (p : Int) := by rw [IntKind.wrap_i64]; omega
 have w2 : IntKind.i64.wrap ((a : Int) + 1) = (q : Int) := by rw [IntKind.wrap_i64]; omega
 have CM := hid (med_any g cap n l p a q s w h (by omega) (by omega) (by omega))
 have HPQ := hid (show a = p + 1 ∧ q = a + 1 from ⟨hp, hq⟩)
 clear h hp hq
 go_enter Tryz.func120, Tryz.ntmps120
 go_wp2_with (go_at_call 121; with_reducible refine (CM.out).mono ?_; rintro e v1 ⟨x, rfl, hx, hc, hk⟩; have HX := hid hx; have HC := hid hc; have HK := hid hk; clear hx hc hk)
 go_ret
 exact ⟨x, rfl, hid (by have := HX.out; have := HPQ.out; omega), HC, HK⟩
end Go.Proofs.YtlhbgaiiehljpaaGreat.Sr
namespace Go.Proofs.YtlhbgaiiehljpaaGreat.Sr
open Go.RowKit Go.Deep
set_option linter.unusedVariables false
set_option linter.unusedSimpArgs false
set_option maxHeartbeats 8000000
set_option maxRecDepth 100000
theorem Kp.below {B : Nat → Prop} {w w' : World} (h : Kp B w w') {n : Nat} (hn : n ≤ w.heap.size) (hB : ∀ g, g < n → ¬ B g) : Below n w w' :=
 ⟨h.os, h.tape, h.output, h.size, fun g hg => h.obj g (Nat.lt_of_lt_of_le hg hn) (hB g hg)⟩
/-- behind the choice: what the counter says, and the end. -/
theorem piv_any (g cap n : Nat) (l : List Int) (a b : Nat) (w : World) (h : Uz w g n l) (hab : a < b) (hbn : b ≤ n) (hn : n ≤ 1152921504606846976) :
  Calls Tryz.prog 103 #[.slice (some ⟨g, 0, none⟩) n cap, .int .i64 a, .int .i64 b] w fun e w' => ∃ (p : Nat) (t : Int), e = .returned (.tuple #[.int .i64 p, .int .i64 t]) ∧ a ≤ p ∧ p < b ∧ Below w.heap.size w w' := by
 obtain ⟨s, hs⟩ : ∃ s, w.heap.size = s := ⟨_, rfl⟩
 obtain ⟨W, hW⟩ : ∃ W, w.alloc (.cells #[.int .i64 0] 3) = W := ⟨_, rfl⟩
 have HBW := hid (show Below w.heap.size w W from by rw [← hW]; exact (Below.refl _ _).alloc (Nat.le_refl _) _)
 have hg : g < w.heap.size := by obtain ⟨cur, e, _⟩ := h.row; exact row_lt e
 have HC := hid (show Cz W g n l s from ⟨h.same (HBW.out.block g hg), 0, by rw [← hW, ← hs]; exact World.alloc_heap_new _ _⟩)
 obtain ⟨L, hL⟩ : ∃ L, L = b - a := ⟨_, rfl⟩
 obtain ⟨d, hd⟩ : ∃ d, d = L / 4 := ⟨_, rfl⟩
 obtain ⟨e2, he2⟩ : ∃ e, e = d * 2 := ⟨_, rfl⟩
 obtain ⟨e3, he3⟩ : ∃ e, e = d * 3 := ⟨_, rfl⟩
 obtain ⟨i, hi⟩ : ∃ i, i = a + d := ⟨_, rfl⟩
 obtain ⟨j, hj⟩ : ∃ j, j = a + e2 := ⟨_, rfl⟩
 obtain ⟨k, hk⟩ : ∃ k, k = a + e3 := ⟨_, rfl⟩
 have wL : IntKind.i64.wrap ((b : Int) - (a : Int)) = (L : Int) := by rw [IntKind.wrap_i64]; omega
 have td : ((L : Int)).tdiv 4 = (d : Int) := by rw [Int.tdiv_eq_ediv_of_nonneg (by omega)]; omega
 have wd : IntKind.i64.wrap (d : Int) = (d : Int) := by rw [IntKind.wrap_i64]; omega
 have w2 : IntKind.i64.wrap ((d : Int) * 2) = (e2 : Int) := by rw [IntKind.wrap_i64]; omega
 have w3 : IntKind.i64.wrap ((d : Int) * 3) = (e3 : Int) := by rw [IntKind.wrap_i64]; omega
 have wi : IntKind.i64.wrap ((a : Int) + (d : Int)) = (i : Int) := by rw [IntKind.wrap_i64]; omega
 have wj : IntKind.i64.wrap ((a : Int) + (e2 : Int)) = (j : Int) := by rw [IntKind.wrap_i64]; omega
 have wk : IntKind.i64.wrap ((a : Int) + (e3 : Int)) = (k : Int) := by rw [IntKind.wrap_i64]; omega
 have HEQ := hid (show L = b - a ∧ d = L / 4 ∧ e2 = d * 2 ∧ e3 = d * 3 ∧ i = a + d ∧ j = a + e2 ∧ k = a + e3 from ⟨hL, hd, he2, he3, hi, hj, hk⟩)
 have CM := hid (show ∀ (U : World) (x : Nat), 1 ≤ x → x + 1 < n → Cz U g n l s → Calls Tryz.prog 120 #[.slice (some ⟨g, 0, none⟩) n cap, .int .i64 x, .pointer (some ⟨s, 0, none⟩)] U fun e w' => ∃ y : Nat, e = .returned (.int .i64 y) ∧ Hid (x ≤ y + 1 ∧ y ≤ x + 1) ∧ Hid (Cz w' g n l s) ∧ Hid (Kp (fun j => j = s) U w') from fun U x h1 h2 h3 => madj_any g cap n l x s U h3 h1 h2 hn)
 have CD := hid (show ∀ (U : World) (x y z : Nat), x < n → y < n → z < n → Cz U g n l s → Calls Tryz.prog 121 #[.slice (some ⟨g, 0, none⟩) n cap, .int .i64 x, .int .i64 y, .int .i64 z, .pointer (some ⟨s, 0, none⟩)] U fun e w' => ∃ v : Nat, e = .returned (.int .i64 v) ∧ Hid (v = x ∨ v = y ∨ v = z) ∧ Hid (Cz w' g n l s) ∧ Hid (Kp (fun j => j = s) U w') from fun U x y z h1 h2 h3 h4 => med_any g cap n l x y z s U h4 h1 h2 h3)
 have HFIN := hid (show ∀ (V : World), Kp (fun j => j = s) W V → Below w.heap.size w V from fun V hV => HBW.out.trans (hV.below HBW.out.size (fun g hg e => by omega)))
 have HW := hid hW
 have HSS := hid hs
 clear h hW hs hL hd he2 he3 hi hj hk hg
 go_enter Tryz.func103, Tryz.ntmps103
 go_upto_region 3 with fail
 rw [HW.out, HSS.out]
 go_upto_region 6 with fail
 by_cases h8 : 8 ≤ L
 ·have i8 : (8 : Int) ≤ (L : Int) := by omega
  by_cases h50 : 50 ≤ L
  ·have i50 : (50 : Int) ≤ (L : Int) := by omega
   have C1 := hid (CM.out W i (by have := HEQ.out; omega) (by have := HEQ.out; omega) HC.out)
   go_upto_region 9 with (go_at_call 120; with_reducible refine (C1.out).mono ?_; rintro e v1 ⟨x1, rfl, E1, Z1, K1⟩)
   have C2 := hid (CM.out v1 j (by have := HEQ.out; omega) (by have := HEQ.out; omega) Z1.out)
   go_upto_region 10 with (go_at_call 120; with_reducible refine (C2.out).mono ?_; rintro e v2 ⟨x2, rfl, E2, Z2, K2⟩)
   have C3 := hid (CM.out v2 k (by have := HEQ.out; omega) (by have := HEQ.out; omega) Z2.out)
   go_upto_region 11 with (go_at_call 120; with_reducible refine (C3.out).mono ?_; rintro e v3 ⟨x3, rfl, E3, Z3, K3⟩)
   have C4 := hid (CD.out v3 x1 x2 x3 (by have := E1.out; have := HEQ.out; omega) (by have := E2.out; have := HEQ.out; omega) (by have := E3.out; have := HEQ.out; omega) Z3.out)
   go_upto_region 12 with (go_at_call 121; with_reducible refine (C4.out).mono ?_; rintro e v4 ⟨x4, rfl, E4, Z4, K4⟩)
   have HK := hid (((K1.out.trans K2.out (fun _ _ e => e)).trans K3.out (fun _ _ e => e)).trans K4.out (fun _ _ e => e))
   have HB := hid (show a ≤ x4 ∧ x4 < b from by have := E1.out; have := E2.out; have := E3.out; have := E4.out; have := HEQ.out; omega)
   obtain ⟨c, hc⟩ := Z4.out.ct
   have c0 : v4.cell? ⟨s, 0, none⟩ = some (.int .i64 c) := row_cell hc 0
   clear hc
   by_cases q0 : c = 0
   ·subst q0
    go_wp2
    go_ret2
    first | exact ⟨x4, 1, rfl, HB.out.1, HB.out.2, HFIN.out _ HK.out⟩ | exact ⟨x4, ⟨1, rfl⟩, HB.out.1, HB.out.2, HFIN.out _ HK.out⟩
   ·have z0 : (c == 0) = false := by simp [q0]
    by_cases q1 : c = 12
    ·subst q1
     go_wp2
     go_ret2
     first | exact ⟨x4, 2, rfl, HB.out.1, HB.out.2, HFIN.out _ HK.out⟩ | exact ⟨x4, ⟨2, rfl⟩, HB.out.1, HB.out.2, HFIN.out _ HK.out⟩
    ·have z1 : (c == 12) = false := by simp [q1]
     clear q0 q1
     go_wp2
     go_ret2
     first | exact ⟨x4, 0, rfl, HB.out.1, HB.out.2, HFIN.out _ HK.out⟩ | exact ⟨x4, ⟨0, rfl⟩, HB.out.1, HB.out.2, HFIN.out _ HK.out⟩
  ·have i50 : ¬ (50 : Int) ≤ (L : Int) := by omega
   have d50 : decide ((50 : Int) ≤ (L : Int)) = false := decide_eq_false i50
   have C4 := hid (CD.out W i j k (by have := HEQ.out; omega) (by have := HEQ.out; omega) (by have := HEQ.out; omega) HC.out)
   go_upto_region 12 with (go_at_call 121; with_reducible refine (C4.out).mono ?_; rintro e v4 ⟨x4, rfl, E4, Z4, K4⟩)
   have HB := hid (show a ≤ x4 ∧ x4 < b from by have := E4.out; have := HEQ.out; omega)
   obtain ⟨c, hc⟩ := Z4.out.ct
   have c0 : v4.cell? ⟨s, 0, none⟩ = some (.int .i64 c) := row_cell hc 0
   clear hc
   by_cases q0 : c = 0
   ·subst q0
    go_wp2
    go_ret2
    first | exact ⟨x4, 1, rfl, HB.out.1, HB.out.2, HFIN.out _ K4.out⟩ | exact ⟨x4, ⟨1, rfl⟩, HB.out.1, HB.out.2, HFIN.out _ K4.out⟩
   ·have z0 : (c == 0) = false := by simp [q0]
    by_cases q1 : c = 12
    ·subst q1
     go_wp2
     go_ret2
     first | exact ⟨x4, 2, rfl, HB.out.1, HB.out.2, HFIN.out _ K4.out⟩ | exact ⟨x4, ⟨2, rfl⟩, HB.out.1, HB.out.2, HFIN.out _ K4.out⟩
    ·have z1 : (c == 12) = false := by simp [q1]
     clear q0 q1
     go_wp2
     go_ret2
     first | exact ⟨x4, 0, rfl, HB.out.1, HB.out.2, HFIN.out _ K4.out⟩ | exact ⟨x4, ⟨0, rfl⟩, HB.out.1, HB.out.2, HFIN.out _ K4.out⟩
 ·have i8 : ¬ (8 : Int) ≤ (L : Int) := by omega
  have d8 : decide ((8 : Int) ≤ (L : Int)) = false := decide_eq_false i8
  have HB := hid (show a ≤ j ∧ j < b from by have := HEQ.out; omega)
  obtain ⟨c, hc⟩ := HC.out.ct
  have c0 : W.cell? ⟨s, 0, none⟩ = some (.int .i64 c) := row_cell hc 0
  clear hc
  by_cases q0 : c = 0
  ·subst q0
   go_wp2
   go_ret2
   first | exact ⟨j, 1, rfl, HB.out.1, HB.out.2, HBW.out⟩ | exact ⟨j, ⟨1, rfl⟩, HB.out.1, HB.out.2, HBW.out⟩
  ·have z0 : (c == 0) = false := by simp [q0]
   by_cases q1 : c = 12
   ·subst q1
    go_wp2
    go_ret2
    first | exact ⟨j, 2, rfl, HB.out.1, HB.out.2, HBW.out⟩ | exact ⟨j, ⟨2, rfl⟩, HB.out.1, HB.out.2, HBW.out⟩
   ·have z1 : (c == 12) = false := by simp [q1]
    clear q0 q1
    go_wp2
    go_ret2
    first | exact ⟨j, 0, rfl, HB.out.1, HB.out.2, HBW.out⟩ | exact ⟨j, ⟨0, rfl⟩, HB.out.1, HB.out.2, HBW.out⟩
end Go.Proofs.YtlhbgaiiehljpaaGreat.Sr
