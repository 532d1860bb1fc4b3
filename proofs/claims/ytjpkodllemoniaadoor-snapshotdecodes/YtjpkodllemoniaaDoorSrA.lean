/-
  Numbers of 64 bits in a slice, put in another order: what the walks of slices.Sort lean on.
-/
import Derived.Test.YtjpkodllemoniaaDoorProg
import Derived.WalkKit
import Derived.Deep.RegionHeld3
import Derived.Deep.DrawnRows
import Derived.Deep.Cut
import Derived.BigQuiet
import Derived.WalkLawsBesides
import Derived.RowKit3
import Derived.Deep.OwnRows
import Derived.Deep.QuietTactic
import Derived.Deep.RegionLaw
import Derived.Below
import Derived.Laws.Rows
import Derived.Laws.NewBlocks
import Derived.Shelf.Strconv.Itoa0
import Derived.Lib.SmallJoins
namespace Go.Proofs.YtjpkodllemoniaaDoor.Sr
open Go.RowKit Go.Deep
set_option linter.unusedVariables false
set_option linter.unusedSimpArgs false
set_option maxHeartbeats 4000000
set_option maxRecDepth 100000
theorem hid {p : Prop} (h : p) : Hid p := h
theorem row_cell {w : World} {g : Nat} {t : TypeId} {cs : Array Value} (h : w.heap[g]? = some (.cells cs t (0, 0))) (j : Nat) : w.cell? ⟨g, j, none⟩ = cs[j]? := cell_of_row w g j cs t (0, 0) h
theorem row_frz {w : World} {g : Nat} {t : TypeId} {cs : Array Value} (h : w.heap[g]? = some (.cells cs t (0, 0))) (j : Nat) : w.frozen? ⟨g, j, none⟩ = false := frozen_of_row w g j cs t h
theorem row_lt {w : World} {g : Nat} {o : Obj} (h : w.heap[g]? = some o) : g < w.heap.size := (Array.getElem?_eq_some_iff.1 h).1
/-- all blocks but some are as they were. -/
structure Kp (B : Nat → Prop) (w w' : World) : Prop where
  os : w'.os = w.os
  tape : w'.tape = w.tape
  output : w'.output = w.output
  size : w.heap.size ≤ w'.heap.size
  obj : ∀ g, g < w.heap.size → ¬ B g → w'.heap[g]? = w.heap[g]?
theorem Kp.refl (B : Nat → Prop) (w : World) : Kp B w w := ⟨rfl, rfl, rfl, Nat.le_refl _, fun _ _ _ => rfl⟩
theorem Kp.trans {B C : Nat → Prop} {a b c : World} (h : Kp B a b) (k : Kp C b c) (hC : ∀ g, g < a.heap.size → C g → B g) : Kp B a c :=
  ⟨k.os.trans h.os, k.tape.trans h.tape, k.output.trans h.output, Nat.le_trans h.size k.size, fun g hg hB => (k.obj g (Nat.lt_of_lt_of_le hg h.size) (fun e => hB (hC g hg e))).trans (h.obj g hg hB)⟩
theorem Kp.drew (B : Nat → Prop) (w : World) : Kp B w w.drew := ⟨rfl, rfl, rfl, Nat.le_refl _, fun _ _ _ => rfl⟩
theorem Kp.drewN (B : Nat → Prop) (w : World) (n : Nat) : Kp B w (w.drewN n) := ⟨rfl, rfl, rfl, Nat.le_refl _, fun _ _ _ => rfl⟩
theorem Kp.of {w w' : World} (B : Nat → Prop) (h : Below w.heap.size w w') : Kp B w w' := ⟨h.os, h.tape, h.output, h.size, fun g hg _ => h.block g hg⟩
theorem Kp.set (w : World) (N i : Nat) (v : Value) : Kp (fun b => b = N) w (w.setCell ⟨N, i, none⟩ v) :=
  ⟨rfl, rfl, rfl, by simp [World.setCell], fun b _ hb => heap_setCell_other _ _ _ _ (by show b ≠ N; exact hb)⟩
/-- a number of a list. -/
def gd (l : List Int) (i : Nat) : Int := l.getD i 0
/-- numbers in a block, the first n of them l. -/
structure Uz (w : World) (g n : Nat) (l : List Int) : Prop where
  len : l.length = n
  row : ∃ cur, w.heap[g]? = some (.cells cur 25 (0, 0)) ∧ n ≤ cur.size ∧ ∀ i, i < n → cur[i]? = some (.int .u64 (gd l i))
theorem Uz.cell {w : World} {g n : Nat} {l : List Int} (h : Uz w g n l) {i : Nat} (hi : i < n) : w.cell? ⟨g, i, none⟩ = some (.int .u64 (gd l i)) := by
  obtain ⟨cur, h1, h2, h3⟩ := h.row
  rw [row_cell h1, h3 i hi]
theorem Uz.frz {w : World} {g n : Nat} {l : List Int} (h : Uz w g n l) (i : Nat) : w.frozen? ⟨g, i, none⟩ = false := by
  obtain ⟨cur, h1, h2, h3⟩ := h.row
  exact row_frz h1 i
theorem Uz.same {w w' : World} {g n : Nat} {l : List Int} (h : Uz w g n l) (e : w'.heap[g]? = w.heap[g]?) : Uz w' g n l := by
  obtain ⟨cur, h1, h2, h3⟩ := h.row
  exact ⟨h.len, cur, e.trans h1, h2, h3⟩
theorem Uz.set {w : World} {g n : Nat} {l : List Int} (h : Uz w g n l) {i : Nat} (hi : i < n) (v : Int) : Uz (w.setCell ⟨g, i, none⟩ (.int .u64 v)) g n (l.set i v) := by
  obtain ⟨cur, h1, h2, h3⟩ := h.row
  refine ⟨by rw [List.length_set]; exact h.len, _, heap_setCell_same w g i cur 25 (.int .u64 v) h1, by simpa using h2, fun j hj => ?_⟩
  have hl := h.len
  by_cases e : i = j
  · subst e
    rw [Array.getElem?_setIfInBounds_self_of_lt (by omega)]
    unfold gd
    rw [List.getD_eq_getElem?_getD, List.getElem?_set_self (by omega)]
    rfl
  · rw [Array.getElem?_setIfInBounds_ne e, h3 j hj]
    unfold gd
    rw [List.getD_eq_getElem?_getD, List.getD_eq_getElem?_getD, List.getElem?_set_ne e]
/-- two change places. -/
def sw (l : List Int) (i j : Nat) : List Int := (l.set i (gd l j)).set j (gd l i)
theorem sw_perm {l : List Int} {i j : Nat} (hi : i < l.length) (hj : j < l.length) : (sw l i j).Perm l := by
  have e1 : gd l i = l[i] := by unfold gd; rw [List.getD_eq_getElem?_getD, List.getElem?_eq_getElem hi]; rfl
  have e2 : gd l j = l[j] := by unfold gd; rw [List.getD_eq_getElem?_getD, List.getElem?_eq_getElem hj]; rfl
  unfold sw
  rw [e1, e2]
  exact List.set_set_perm hi hj
/-- what stands between two steps: some order of the numbers. -/
def Sz (w0 w : World) (g n : Nat) (l0 : List Int) : Prop := ∃ l, l.Perm l0 ∧ Uz w g n l ∧ Kp (fun b => b = g) w0 w
theorem Uz.sz {w : World} {g n : Nat} {l : List Int} (h : Uz w g n l) : Sz w w g n l := ⟨l, List.Perm.refl _, h, Kp.refl _ _⟩
theorem Sz.drew {w0 w : World} {g n : Nat} {l0 : List Int} (h : Sz w0 w g n l0) : Sz w0 w.drew g n l0 := by
  obtain ⟨l, h1, h2, h3⟩ := h
  exact ⟨l, h1, h2.same rfl, h3.trans (Kp.drew _ _) (fun _ _ e => e)⟩
theorem Sz.drewN {w0 w : World} {g n : Nat} {l0 : List Int} (h : Sz w0 w g n l0) (k : Nat) : Sz w0 (w.drewN k) g n l0 := by
  obtain ⟨l, h1, h2, h3⟩ := h
  exact ⟨l, h1, h2.same rfl, h3.trans (Kp.drewN _ _ k) (fun _ _ e => e)⟩
theorem Sz.on {w0 w w' : World} {g n : Nat} {l0 : List Int} (h : Sz w0 w g n l0) (hb : Below w.heap.size w w') : Sz w0 w' g n l0 := by
  obtain ⟨l, h1, h2, h3⟩ := h
  obtain ⟨cur, e, _⟩ := h2.row
  exact ⟨l, h1, h2.same (hb.block g (row_lt e)), h3.trans (Kp.of _ hb) (fun _ _ e => e)⟩
theorem Sz.trans {w0 w w' : World} {g n : Nat} {l0 l : List Int} (h1 : l.Perm l0) (h3 : Kp (fun b => b = g) w0 w) (h : Sz w w' g n l) : Sz w0 w' g n l0 := by
  obtain ⟨l', a1, a2, a3⟩ := h
  exact ⟨l', a1.trans h1, a2, h3.trans a3 (fun _ _ e => e)⟩
/-- two change places in memory. -/
theorem Sz.swap {w0 w : World} {g n : Nat} {l0 l : List Int} (h1 : l.Perm l0) (h2 : Uz w g n l) (h3 : Kp (fun b => b = g) w0 w) {i j : Nat} (hi : i < n) (hj : j < n) : Sz w0 ((w.setCell ⟨g, i, none⟩ (.int .u64 (gd l j))).setCell ⟨g, j, none⟩ (.int .u64 (gd l i))) g n l0 :=
  ⟨sw l i j, (sw_perm (by rw [h2.len]; exact hi) (by rw [h2.len]; exact hj)).trans h1, (h2.set hi _).set hj _, (h3.trans (Kp.set w g i _) (fun _ _ e => e)).trans (Kp.set _ g j _) (fun _ _ e => e)⟩
/-- many temporaries are written at once. -/
def puts (a : Act) (ds : List Nat) (t : Nat → Value) : Act := ds.foldl (fun a d => a.put (some d) (t d)) a
/-- a cut behind a region: of its temporaries nothing is known there. -/
theorem reg_any {P : Program} {id : Nat} {ops : Array Oper} {b : Bool} {Q : Exit → Act → World → Prop} {a : Act} {w : World} (ds : List Nat) (T : World → Prop)
    (h1 : (Code.region id ops b).wp P (fun e a' w' => match e with | .normal => a' = puts a ds (fun d => a'.tmps.getD d undef) ∧ T w' | _ => False) a w)
    (h2 : ∀ t w', T w' → Q .normal (puts a ds t) w') : (Code.region id ops b).wp P Q a w :=
  wp_mono h1 (fun e a' w' h => by
    cases e with
    | normal => obtain ⟨h3, ht⟩ := h; rw [h3]; exact h2 _ w' ht
    | _ => exact h.elim)
theorem less_any (x y : Int) (w : World) : Calls Tryd.prog 63 #[.int .u64 x, .int .u64 y] w fun e w' => e = .returned (.bool (decide (x < y))) ∧ w' = w := by
  have CN := hid (show ∀ (x : Int) (U : World), Calls Tryd.prog 73 #[.int .u64 x] U fun e w' => e = .returned (.bool false) ∧ w' = U from fun x U => by
    go_enter Tryd.func73, Tryd.ntmps73
    go_wp2
    go_ret
    simp)
  go_enter Tryd.func63, Tryd.ntmps63
  go_wp2_with (go_at_call 73; with_reducible refine (CN.out _ _).mono ?_; rintro e w1 ⟨rfl, rfl⟩)
  go_ret
  exact ⟨rfl, rfl⟩
end Go.Proofs.YtjpkodllemoniaaDoor.Sr
