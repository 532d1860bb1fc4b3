/-
  AcM
-/
import Derived.Test.YtlhbgaiiehljpaaGreatChecked
import Derived.WalkKit
import Derived.WalkLawsBesides
import Derived.RowKit3
import Derived.Deep.OwnRows
import Derived.BigQuiet
import Derived.Deep.QuietTactic
import Derived.Laws.Rows
import Derived.Laws.OwnMore
import Derived.Deep.RegionHeld3
import Derived.Deep.RegionWith
import Derived.Deep.AppendLies
import Derived.Shelf.Strconv.Itoa0
import Derived.RangeFuncRecord
import Derived.Deep.DrawnRows
import Derived.Deep.Cut
import Derived.Deep.CutBlock
import Derived.Deep.RegionLaw
import Derived.Laws.NewBlocks
import Derived.Laws.MakeOwn
import Derived.Laws.AppendOwnNone
import Derived.Lib.SliceRun
import Derived.Test.YtlhbgaiiehljpaaGreatRows
import Derived.WalkSpells
import Derived.Laws.Externs
import Derived.OrdersHeld
import Derived.Test.YtlhbgaiiehljpaaGreatProg
import Derived.Below
import Derived.Lib.SmallJoins
namespace Go.Proofs.YtlhbgaiiehljpaaGreat.Ac
open Go.RowKit Go.Deep
set_option linter.unusedVariables false
set_option linter.unusedSimpArgs false
theorem hid {p : Prop} (h : p) : Hid p := h
theorem ball (w : World) (o : Obj) : Below w.heap.size w (w.alloc o) := (Below.refl _ _).alloc (Nat.le_refl _) _
theorem btr {a b c : World} (h : Below a.heap.size a b) (k : Below b.heap.size b c) : Below a.heap.size a c := h.trans (k.mono h.size)
theorem row_cell {w : World} {g : Nat} {t : TypeId} {cs : Array Value} (h : w.heap[g]? = some (.cells cs t (0, 0))) (j : Nat) : w.cell? ⟨g, j, none⟩ = cs[j]? := cell_of_row w g j cs t (0, 0) h
theorem row_frz {w : World} {g : Nat} {t : TypeId} {cs : Array Value} (h : w.heap[g]? = some (.cells cs t (0, 0))) (j : Nat) : w.frozen? ⟨g, j, none⟩ = false := frozen_of_row w g j cs t h
theorem row_lt {w : World} {g : Nat} {o : Obj} (h : w.heap[g]? = some o) : g < w.heap.size := (Array.getElem?_eq_some_iff.1 h).1
theorem row_on {w w' : World} {g : Nat} {o : Obj} (h : w.heap[g]? = some o) (hb : Below w.heap.size w w') : w'.heap[g]? = some o := by
 rw [hb.block g (row_lt h)]; exact h
theorem row_ne {w : World} {g k : Nat} {t u : TypeId} {c d : Array Value} (h : w.heap[g]? = some (.cells c t (0, 0))) (k' : w.heap[k]? = some (.cells d u (0, 0))) (ne : t ≠ u) : g ≠ k := by
 rintro rfl
 rw [h] at k'
 injection k' with k'
 injection k' with _ k'
 exact ne k'
theorem bdrew1 (w : World) : Below w.heap.size w w.drew := ⟨rfl, rfl, rfl, Nat.le_refl _, fun _ _ => rfl⟩
/-- all blocks but some are as they were. -/
structure Kp (B : Nat → Prop) (w w' : World) : Prop where
 os : w'.os = w.os
 tape : w'.tape = w.tape
 output : w'.output = w.output
 size : w.heap.size ≤ w'.heap.size
 obj : ∀ b, b < w.heap.size → ¬ B b → w'.heap[b]? = w.heap[b]?
theorem Kp.refl (B : Nat → Prop) (w : World) : Kp B w w := ⟨rfl, rfl, rfl, Nat.le_refl _, fun _ _ _ => rfl⟩
theorem Kp.trans {B C : Nat → Prop} {a b c : World} (h : Kp B a b) (k : Kp C b c) (hC : ∀ g, g < a.heap.size → C g → B g) : Kp B a c :=
 ⟨k.os.trans h.os, k.tape.trans h.tape, k.output.trans h.output, Nat.le_trans h.size k.size, fun g hg hB => (k.obj g (Nat.lt_of_lt_of_le hg h.size) (fun hc => hB (hC g hg hc))).trans (h.obj g hg hB)⟩
theorem Kp.mono {B C : Nat → Prop} {a b : World} (h : Kp B a b) (hm : ∀ g, g < a.heap.size → B g → C g) : Kp C a b :=
 ⟨h.os, h.tape, h.output, h.size, fun g hg hC => h.obj g hg (fun hB => hC (hm g hg hB))⟩
theorem Kp.row {B : Nat → Prop} {w w' : World} (h : Kp B w w') {g : Nat} {o : Obj} (e : w.heap[g]? = some o) (hB : ¬ B g) : w'.heap[g]? = some o := (h.obj g (row_lt e) hB).trans e
theorem Kp.below {B : Nat → Prop} {w w' : World} (h : Kp B w w') {n : Nat} (hn : n ≤ w.heap.size) (hB : ∀ g, g < n → ¬ B g) : Below n w w' :=
 ⟨h.os, h.tape, h.output, h.size, fun g hg => h.obj g (Nat.lt_of_lt_of_le hg hn) (hB g hg)⟩
theorem Kp.of {w w' : World} (B : Nat → Prop) (h : Below w.heap.size w w') : Kp B w w' := ⟨h.os, h.tape, h.output, h.size, fun g hg _ => h.block g hg⟩
theorem Kp.set (w : World) (N i : Nat) (v : Value) : Kp (fun b => b = N) w (w.setCell ⟨N, i, none⟩ v) :=
 ⟨rfl, rfl, rfl, by simp [World.setCell], fun b _ hN => heap_setCell_other _ _ _ _ (by show b ≠ N; exact hN)⟩
theorem own_same {base : Nat} {w w' : World} {e : TypeId} {size n : Nat} {v : Value} {xs : List Value} (h : w.ownsRow base e size v n xs) (hs : ∀ g, v.ownBlock = some g → w'.heap[g]? = w.heap[g]?) : w'.ownsRow base e size v n xs := by
 obtain ⟨h1, h2 | ⟨g, c, cur, rfl, r1, r2, r⟩⟩ := h
 ·exact ⟨h1, .inl h2⟩
 ·exact ⟨h1, .inr ⟨g, c, cur, rfl, r1, (hs g rfl).trans r2, r⟩⟩
theorem own_ty {base : Nat} {w : World} {e : TypeId} {size n : Nat} {v : Value} {xs : List Value} (h : w.ownsRow base e size v n xs) {g : Nat} (hg : v.ownBlock = some g) : ∃ cur, w.heap[g]? = some (.cells cur e (0, 0)) := by
 obtain ⟨h1, ⟨rfl, _⟩ | ⟨g', c, cur, rfl, r1, r2, r⟩⟩ := h
 ·cases hg
 ·cases hg; exact ⟨cur, r2⟩
theorem own_on {base : Nat} {w w' : World} {e : TypeId} {size n : Nat} {v : Value} {xs : List Value} (h : w.ownsRow base e size v n xs) (hb : Below w.heap.size w w') : w'.ownsRow base e size v n xs :=
 own_same h (fun g hg => by obtain ⟨c, e⟩ := own_ty h hg; exact hb.block g (row_lt e))
theorem own_base {base base' : Nat} {w : World} {e : TypeId} {size n : Nat} {v : Value} {xs : List Value} (h : w.ownsRow base e size v n xs) (hb : base' ≤ base) : w.ownsRow base' e size v n xs := by
 obtain ⟨h1, h2 | ⟨g, c, cur, h2, r1, r⟩⟩ := h
 ·exact ⟨h1, .inl h2⟩
 ·exact ⟨h1, .inr ⟨g, c, cur, h2, Nat.le_trans hb r1, r⟩⟩
/-- a slice begins a block. -/
def OfP (p : Option Addr) (b : Nat) : Prop := p = some ⟨b, 0, none⟩
theorem OfP.mk (g : Nat) : OfP (some ⟨g, 0, none⟩) g := rfl
theorem OfP.eq {g b : Nat} (h : OfP (some ⟨g, 0, none⟩) b) : b = g := by injection h with h; injection h with h; exact h.symm
theorem on_b {P : Program} {f : Nat} {args : Array Value} {w U : World} {v : Value} (h : Calls P f args U fun e w' => e = .returned v ∧ Below U.heap.size U w') (hU : Below w.heap.size w U) : Calls P f args U fun e w' => e = .returned v ∧ Hid (Below w.heap.size w w') :=
 h.mono (fun _ _ h => ⟨h.1, hid (btr hU h.2)⟩)
end Go.Proofs.YtlhbgaiiehljpaaGreat.Ac
namespace Go.Proofs.YtlhbgaiiehljpaaGreat
open Go.RowKit
/-- A word. -/
def Word (x : Int) : Prop := 0 ≤ x ∧ x < 18446744073709551616
def addV (a b : Int) : Int := if a + b < 18446744073709551616 then a + b else 0
def addE (a b : Int) : Int := if a + b < 18446744073709551616 then 0 else 10
theorem add64 (x y c : Int) (hx : 0 ≤ x) (hy : 0 ≤ y) (hc0 : 0 ≤ c) (hc : c ≤ 1) (w : World) : (callFunc 55 #[.int .u64 x, .int .u64 y, .int .u64 c]).run Tryz.prog w =
  .ok (.value (.tuple #[.int .u64 ((x + y + c) % 18446744073709551616), .int .u64 ((x + y + c) / 18446744073709551616)])) w := by
 rw [run_callFunc_extern Tryz.func55 (by kernel_rfl) (by kernel_rfl) (by kernel_rfl) (e := add64Entry) (by kernel_rfl), run_add64 x y c hx hy hc0 hc]
 rfl
theorem add64_0 (x y : Int) (hx : 0 ≤ x) (hy : 0 ≤ y) (w : World) : (callFunc 55 #[.int .u64 x, .int .u64 y, .int .u64 0]).run Tryz.prog w =
  .ok (.value (.tuple #[.int .u64 ((x + y) % 18446744073709551616), .int .u64 ((x + y) / 18446744073709551616)])) w := by
 simpa using add64 x y 0 hx hy (Int.le_refl 0) (by decide) w
theorem hid {p : Prop} (h : p) : Hid p := h
end Go.Proofs.YtlhbgaiiehljpaaGreat

namespace Go.Proofs.YtlhbgaiiehljpaaGreat.BigM
def val : List Int → Int
 | [] => 0
 | d :: r => d + 4294967296 * val r
def Dig (l : List Int) : Prop := ∀ d, d ∈ l → 0 ≤ d ∧ d < 4294967296
/-- digit k, 0 beyond the list. -/
def at0 (l : List Int) (k : Nat) : Int := l[k]?.getD 0
def Trm (l : List Int) : Prop := 0 < l.length → at0 l (l.length - 1) ≠ 0
/-- the powers of the base. -/
def pw (k : Nat) : Int := 4294967296 ^ k
theorem Dig.take {l : List Int} (h : Dig l) (k : Nat) : Dig (l.take k) := fun d hd => h d (List.mem_of_mem_take hd)
end Go.Proofs.YtlhbgaiiehljpaaGreat.BigM
namespace Go.Proofs.YtlhbgaiiehljpaaGreat
open Go.RowKit BigM
set_option linter.unusedVariables false
/-- the digits at an address, in a world. -/
def CellsAt (w : World) (b o : Nat) (ds : List Int) : Prop := (∃ cur, w.heap[b]? = some (.cells cur 36 (0, 0))) ∧ ∀ j, j < ds.length → w.cell? ⟨b, o + j, none⟩ = some (.int .u32 (at0 ds j))
/-- a slice reads as these digits. -/
def Rd (w : World) (v : Value) (ds : List Int) : Prop :=
 (v = .slice none 0 0 ∧ ds = []) ∨ ∃ b o cap, v = .slice (some ⟨b, o, none⟩) ds.length cap ∧ ds.length ≤ cap ∧ cap ≤ maxLen ∧ CellsAt w b o ds
/-- a slice is the whole number n. -/
def Bn (w : World) (v : Value) (n : Int) : Prop := ∃ ds, Rd w v ds ∧ Dig ds ∧ Trm ds ∧ val ds = n
theorem CellsAt.lt {w : World} {b o : Nat} {ds : List Int} (h : CellsAt w b o ds) : b < w.heap.size := by
 obtain ⟨⟨cur, e⟩, _⟩ := h
 exact (Array.getElem?_eq_some_iff.1 e).1
theorem CellsAt.below {w w' : World} {B b o : Nat} {ds : List Int} (h : CellsAt w b o ds) (hb : Below B w w') (hB : w.heap.size ≤ B) : CellsAt w' b o ds := by
 have hl := h.lt
 obtain ⟨⟨cur, e⟩, h2⟩ := h
 exact ⟨⟨cur, (hb.block b (by omega)).trans e⟩, fun j hj => (hb.cell (p := ⟨b, o + j, none⟩) (by show b < B; omega)).trans (h2 j hj)⟩
theorem Rd.below {w w' : World} {B : Nat} {v : Value} {ds : List Int} (h : Rd w v ds) (hb : Below B w w') (hB : w.heap.size ≤ B) : Rd w' v ds := by
 rcases h with h | ⟨b, o, cap, h1, h2, h3, h4⟩
 ·exact .inl h
 ·exact .inr ⟨b, o, cap, h1, h2, h3, h4.below hb hB⟩
theorem Bn.below {w w' : World} {B : Nat} {v : Value} {n : Int} (h : Bn w v n) (hb : Below B w w') (hB : w.heap.size ≤ B) : Bn w' v n := by
 obtain ⟨ds, h1, h2⟩ := h
 exact ⟨ds, h1.below hb hB, h2⟩
theorem Bn.to {w w' : World} {v : Value} {n : Int} (h : Bn w v n) (hb : Below w.heap.size w w') : Bn w' v n := h.below hb (Nat.le_refl _)
end Go.Proofs.YtlhbgaiiehljpaaGreat
namespace Go.Proofs.YtlhbgaiiehljpaaGreat
open Go
section
variable {P : Program} {md : Region.Mode} {ops : Array Oper} {Q : Exit → Act → World → Prop} {S : World → Prop}
theorem tkz (i : Nat) {oi : Oper} {v : Value} {fuel : Nat} {listed : Array Bool} {a : Act} {w : World} (hi : ops[i]? = some oi)
    (hy : ∀ w, S w → (execOp a.eval oi).run P w = .ok (.value v) w)
    (h : wpAnyH P md ops Q S fuel (listed.setIfInBounds i true) (a.put oi.dst v) w)
    (hs : Region.noSelect ops = true := by kernel_rfl) (hf : Region.free md ops listed i = true := by kernel_rfl) (hr : (Region.ready md ops listed).contains i = true := by kernel_rfl)
    (hQ : ∀ c a w, Q (.panic c) (a.put oi.dst v) w → Q (.panic c) a w := by exact fun _ _ _ h => h)
    (hg : Region.wanted oi (yielded ops a.tmps) = true := by kernel_rfl)
    (hS : S w := by first | trivial | assumption) : wpAnyH P md ops Q S (fuel + 1) listed a w :=
  wpAnyH_take hi hs hf hr hQ (.inl ⟨hg, hy⟩) hS h
end
end Go.Proofs.YtlhbgaiiehljpaaGreat
namespace Go.Proofs.YtlhbgaiiehljpaaGreat.Ss
open Go.RowKit Go.Deep
set_option linter.unusedVariables false
set_option linter.unusedSimpArgs false
set_option maxHeartbeats 4000000
set_option maxRecDepth 100000
theorem hid {p : Prop} (h : p) : Hid p := h
theorem row_cell {w : World} {g : Nat} {t : TypeId} {cs : Array Value} (h : w.heap[g]? = some (.cells cs t (0, 0))) (j : Nat) : w.cell? ⟨g, j, none⟩ = cs[j]? := cell_of_row w g j cs t (0, 0) h
theorem row_frz {w : World} {g : Nat} {t : TypeId} {cs : Array Value} (h : w.heap[g]? = some (.cells cs t (0, 0))) (j : Nat) : w.frozen? ⟨g, j, none⟩ = false := frozen_of_row w g j cs t h
theorem row_lt {w : World} {g : Nat} {o : Obj} (h : w.heap[g]? = some o) : g < w.heap.size := (Array.getElem?_eq_some_iff.1 h).1
/-- all blocks but some are as they were. -/
structure Kp (B : Nat → Prop) (w w' : World) : Prop where
 os : w'.os = w.os
 tape : w'.tape = w.tape
 output : w'.output = w.output
 size : w.heap.size ≤ w'.heap.size
 obj : ∀ g, g < w.heap.size → ¬ B g → w'.heap[g]? = w.heap[g]?
theorem Kp.refl (B : Nat → Prop) (w : World) : Kp B w w := ⟨rfl, rfl, rfl, Nat.le_refl _, fun _ _ _ => rfl⟩
theorem Kp.trans {B C : Nat → Prop} {a b c : World} (h : Kp B a b) (k : Kp C b c) (hC : ∀ g, g < a.heap.size → C g → B g) : Kp B a c :=
 ⟨k.os.trans h.os, k.tape.trans h.tape, k.output.trans h.output, Nat.le_trans h.size k.size, fun g hg hB => (k.obj g (Nat.lt_of_lt_of_le hg h.size) (fun e => hB (hC g hg e))).trans (h.obj g hg hB)⟩
theorem Kp.drew (B : Nat → Prop) (w : World) : Kp B w w.drew := ⟨rfl, rfl, rfl, Nat.le_refl _, fun _ _ _ => rfl⟩
theorem Kp.drewN (B : Nat → Prop) (w : World) (n : Nat) : Kp B w (w.drewN n) := ⟨rfl, rfl, rfl, Nat.le_refl _, fun _ _ _ => rfl⟩
theorem Kp.of {w w' : World} (B : Nat → Prop) (h : Below w.heap.size w w') : Kp B w w' := ⟨h.os, h.tape, h.output, h.size, fun g hg _ => h.block g hg⟩
theorem Kp.set (w : World) (N i : Nat) (v : Value) : Kp (fun b => b = N) w (w.setCell ⟨N, i, none⟩ v) :=
 ⟨rfl, rfl, rfl, by simp [World.setCell], fun b _ hb => heap_setCell_other _ _ _ _ (by show b ≠ N; exact hb)⟩
/-- a number of a list. -/
def gd (l : List Int) (i : Nat) : Int := l.getD i 0
/-- numbers in a block, the first n of them l. -/
structure Uz (w : World) (g n : Nat) (l : List Int) : Prop where
 len : l.length = n
 row : ∃ cur, w.heap[g]? = some (.cells cur 3 (0, 0)) ∧ n ≤ cur.size ∧ ∀ i, i < n → cur[i]? = some (.int .i64 (gd l i))
theorem Uz.cell {w : World} {g n : Nat} {l : List Int} (h : Uz w g n l) {i : Nat} (hi : i < n) : w.cell? ⟨g, i, none⟩ = some (.int .i64 (gd l i)) := by
 obtain ⟨cur, h1, h2, h3⟩ := h.row
 rw [row_cell h1, h3 i hi]
theorem Uz.frz {w : World} {g n : Nat} {l : List Int} (h : Uz w g n l) (i : Nat) : w.frozen? ⟨g, i, none⟩ = false := by
 obtain ⟨cur, h1, h2, h3⟩ := h.row
 exact row_frz h1 i
theorem Uz.same {w w' : World} {g n : Nat} {l : List Int} (h : Uz w g n l) (e : w'.heap[g]? = w.heap[g]?) : Uz w' g n l := by
 obtain ⟨cur, h1, h2, h3⟩ := h.row
 exact ⟨h.len, cur, e.trans h1, h2, h3⟩
theorem Uz.set {w : World} {g n : Nat} {l : List Int} (h : Uz w g n l) {i : Nat} (hi : i < n) (v : Int) : Uz (w.setCell ⟨g, i, none⟩ (.int .i64 v)) g n (l.set i v) := by
 obtain ⟨cur, h1, h2, h3⟩ := h.row
 refine ⟨by rw [List.length_set]; exact h.len, _, heap_setCell_same w g i cur 3 (.int .i64 v) h1, by simpa using h2, fun j hj => ?_⟩
 have hl := h.len
 by_cases e : i = j
 ·subst e
  rw [Array.getElem?_setIfInBounds_self_of_lt (by omega)]
  unfold gd
  rw [List.getD_eq_getElem?_getD, List.getElem?_set_self (by omega)]
  rfl
 ·rw [Array.getElem?_setIfInBounds_ne e, h3 j hj]
  unfold gd
  rw [List.getD_eq_getElem?_getD, List.getD_eq_getElem?_getD, List.getElem?_set_ne e]
/-- two change places. -/
def sw (l : List Int) (i j : Nat) : List Int := (l.set i (gd l j)).set j (gd l i)
theorem sw_perm {l : List Int} {i j : Nat} (hi : i < l.length) (hj : j < l.length) : (sw l i j).Perm l := by
 have e1 : gd l i = l[i] := by unfold gd; rw [List.getD_eq_getElem?_getD, List.getElem?_eq_getElem hi]; rfl
 have e2 : gd l j = l[j] := by unfold gd; rw [List.getD_eq_getElem?_getD, List.getElem?_eq_getElem hj]; rfl
 unfold sw
 rw [e1, e2]
 exact List.set_set_perm hi hj
/-- what stands between two steps: some order of the numbers. -/
def Sz (w0 w : World) (g n : Nat) (l0 : List Int) : Prop := ∃ l, l.Perm l0 ∧ Uz w g n l ∧ Kp (fun b => b = g) w0 w
theorem Uz.sz {w : World} {g n : Nat} {l : List Int} (h : Uz w g n l) : Sz w w g n l := ⟨l, List.Perm.refl _, h, Kp.refl _ _⟩
theorem Sz.drew {w0 w : World} {g n : Nat} {l0 : List Int} (h : Sz w0 w g n l0) : Sz w0 w.drew g n l0 := by
 obtain ⟨l, h1, h2, h3⟩ := h
 exact ⟨l, h1, h2.same rfl, h3.trans (Kp.drew _ _) (fun _ _ e => e)⟩
theorem Sz.drewN {w0 w : World} {g n : Nat} {l0 : List Int} (h : Sz w0 w g n l0) (k : Nat) : Sz w0 (w.drewN k) g n l0 := by
 obtain ⟨l, h1, h2, h3⟩ := h
 exact ⟨l, h1, h2.same rfl, h3.trans (Kp.drewN _ _ k) (fun _ _ e => e)⟩
theorem Sz.on {w0 w w' : World} {g n : Nat} {l0 : List Int} (h : Sz w0 w g n l0) (hb : Below w.heap.size w w') : Sz w0 w' g n l0 := by
 obtain ⟨l, h1, h2, h3⟩ := h
 obtain ⟨cur, e, _⟩ := h2.row
 exact ⟨l, h1, h2.same (hb.block g (row_lt e)), h3.trans (Kp.of _ hb) (fun _ _ e => e)⟩
theorem Sz.trans {w0 w w' : World} {g n : Nat} {l0 l : List Int} (h1 : l.Perm l0) (h3 : Kp (fun b => b = g) w0 w) (h : Sz w w' g n l) : Sz w0 w' g n l0 := by
 obtain ⟨l', a1, a2, a3⟩ := h
 exact ⟨l', a1.trans h1, a2, h3.trans a3 (fun _ _ e => e)⟩
/-- two change places in memory. -/
theorem Sz.swap {w0 w : World} {g n : Nat} {l0 l : List Int} (h1 : l.Perm l0) (h2 : Uz w g n l) (h3 : Kp (fun b => b = g) w0 w) {i j : Nat} (hi : i < n) (hj : j < n) : Sz w0 ((w.setCell ⟨g, i, none⟩ (.int .i64 (gd l j))).setCell ⟨g, j, none⟩ (.int .i64 (gd l i))) g n l0 :=
 ⟨sw l i j, (sw_perm (by rw [h2.len]; exact hi) (by rw [h2.len]; exact hj)).trans h1, (h2.set hi _).set hj _, (h3.trans (Kp.set w g i _) (fun _ _ e => e)).trans (Kp.set _ g j _) (fun _ _ e => e)⟩
/-- many temporaries are written at once. -/
def puts (a : Act) (ds : List Nat) (t : Nat → Value) : Act := ds.foldl (fun a d => a.put (some d) (t d)) a
/-- a cut behind a region: of its temporaries nothing is known there. -/
theorem reg_any {P : Program} {id : Nat} {ops : Array Oper} {b : Bool} {Q : Exit → Act → World → Prop} {a : Act} {w : World} (ds : List Nat) (T : World → Prop)
  (h1 : (Code.region id ops b).wp P (fun e a' w' => match e with | .normal => a' = puts a ds (fun d => a'.tmps.getD d undef) ∧ T w' | _ => False) a w)
  (h2 : ∀ t w', T w' → Q .normal (puts a ds t) w') : (Code.region id ops b).wp P Q a w :=
 wp_mono h1 (fun e a' w' h => by
  cases e with
  | normal => obtain ⟨h3, ht⟩ := h; rw [h3]; exact h2 _ w' ht
  | _ => exact h.elim)
/-- numbers in a block, with a property of their list; only that block has changed. -/
def Sp (w0 w : World) (g n : Nat) (F : List Int → Prop) : Prop := ∃ l, F l ∧ Uz w g n l ∧ Kp (fun b => b = g) w0 w
theorem Uz.sp {w : World} {g n : Nat} {l : List Int} {F : List Int → Prop} (h : Uz w g n l) (hf : F l) : Sp w w g n F := ⟨l, hf, h, Kp.refl _ _⟩
theorem Sp.drew {w0 w : World} {g n : Nat} {F : List Int → Prop} (h : Sp w0 w g n F) : Sp w0 w.drew g n F := by
 obtain ⟨l, h1, h2, h3⟩ := h
 exact ⟨l, h1, h2.same rfl, h3.trans (Kp.drew _ _) (fun _ _ e => e)⟩
theorem Sp.drewN {w0 w : World} {g n : Nat} {F : List Int → Prop} (h : Sp w0 w g n F) (k : Nat) : Sp w0 (w.drewN k) g n F := by
 obtain ⟨l, h1, h2, h3⟩ := h
 exact ⟨l, h1, h2.same rfl, h3.trans (Kp.drewN _ _ k) (fun _ _ e => e)⟩
theorem Sp.on {w0 w w' : World} {g n : Nat} {F : List Int → Prop} (h : Sp w0 w g n F) (hb : Below w.heap.size w w') : Sp w0 w' g n F := by
 obtain ⟨l, h1, h2, h3⟩ := h
 obtain ⟨cur, e, _⟩ := h2.row
 exact ⟨l, h1, h2.same (hb.block g (row_lt e)), h3.trans (Kp.of _ hb) (fun _ _ e => e)⟩
theorem Sp.mono {w0 w : World} {g n : Nat} {F G : List Int → Prop} (h : Sp w0 w g n F) (hm : ∀ l, l.length = n → F l → G l) : Sp w0 w g n G := by
 obtain ⟨l, h1, h2, h3⟩ := h
 exact ⟨l, hm l h2.len h1, h2, h3⟩
theorem Sp.trans {w0 w w' : World} {g n : Nat} {F : List Int → Prop} (h3 : Kp (fun b => b = g) w0 w) (h : Sp w w' g n F) : Sp w0 w' g n F := by
 obtain ⟨l', a1, a2, a3⟩ := h
 exact ⟨l', a1, a2, h3.trans a3 (fun _ _ e => e)⟩
theorem Sp.swap {w0 w : World} {g n : Nat} {l : List Int} {F : List Int → Prop} {i j : Nat} (h1 : F (sw l i j)) (h2 : Uz w g n l) (h3 : Kp (fun b => b = g) w0 w) (hi : i < n) (hj : j < n) : Sp w0 ((w.setCell ⟨g, i, none⟩ (.int .i64 (gd l j))).setCell ⟨g, j, none⟩ (.int .i64 (gd l i))) g n F :=
 ⟨sw l i j, h1, (h2.set hi _).set hj _, (h3.trans (Kp.set w g i _) (fun _ _ e => e)).trans (Kp.set _ g j _) (fun _ _ e => e)⟩
end Go.Proofs.YtlhbgaiiehljpaaGreat.Ss
