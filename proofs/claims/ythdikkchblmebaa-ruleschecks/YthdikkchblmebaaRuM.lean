/-
  A book of two lists in memory.
-/
import Derived.Test.YthdikkchblmebaaChecked
import Derived.WalkKit
import Derived.WalkLawsBesides
import Derived.RowKit3
import Derived.Deep.OwnRows
import Derived.BigQuiet
import Derived.Deep.QuietTactic
import Derived.Laws.Rows
import Derived.Laws.OwnMore
import Derived.Deep.RegionHeld3
import Derived.Deep.RegionWith
import Derived.Deep.AppendLies
import Derived.Shelf.Strconv.Itoa0
import Derived.RangeFuncRecord
namespace Go.Proofs.Ythdikkchblmebaa
open Go.RowKit Go.Deep
set_option linter.unusedVariables false
set_option linter.unusedSimpArgs false
theorem hid {p : Prop} (h : p) : Hid p := h
theorem ball (w : World) (o : Obj) : Below w.heap.size w (w.alloc o) := (Below.refl _ _).alloc (Nat.le_refl _) _
theorem btr {a b c : World} (h : Below a.heap.size a b) (k : Below b.heap.size b c) : Below a.heap.size a c := h.trans (k.mono h.size)
theorem row_cell {w : World} {g : Nat} {t : TypeId} {cs : Array Value} (h : w.heap[g]? = some (.cells cs t (0, 0))) (j : Nat) : w.cell? ⟨g, j, none⟩ = cs[j]? := cell_of_row w g j cs t (0, 0) h
theorem row_frz {w : World} {g : Nat} {t : TypeId} {cs : Array Value} (h : w.heap[g]? = some (.cells cs t (0, 0))) (j : Nat) : w.frozen? ⟨g, j, none⟩ = false := frozen_of_row w g j cs t h
theorem row_lt {w : World} {g : Nat} {o : Obj} (h : w.heap[g]? = some o) : g < w.heap.size := (Array.getElem?_eq_some_iff.1 h).1
theorem row_on {w w' : World} {g : Nat} {o : Obj} (h : w.heap[g]? = some o) (hb : Below w.heap.size w w') : w'.heap[g]? = some o := by
  rw [hb.block g (row_lt h)]; exact h
theorem row_ne {w : World} {g k : Nat} {t u : TypeId} {c d : Array Value} (h : w.heap[g]? = some (.cells c t (0, 0))) (k' : w.heap[k]? = some (.cells d u (0, 0))) (ne : t ≠ u) : g ≠ k := by
  rintro rfl
  rw [h] at k'
  injection k' with k'
  injection k' with _ k'
  exact ne k'
theorem bdrew (w : World) (n : Nat) : Below w.heap.size w (w.drewN n) := ⟨rfl, rfl, rfl, Nat.le_refl _, fun _ _ => rfl⟩
theorem bdrew1 (w : World) : Below w.heap.size w w.drew := ⟨rfl, rfl, rfl, Nat.le_refl _, fun _ _ => rfl⟩
/-- all blocks but some are as they were. -/
structure Kp (B : Nat → Prop) (w w' : World) : Prop where
  os : w'.os = w.os
  tape : w'.tape = w.tape
  output : w'.output = w.output
  size : w.heap.size ≤ w'.heap.size
  obj : ∀ b, b < w.heap.size → ¬ B b → w'.heap[b]? = w.heap[b]?
theorem Kp.refl (B : Nat → Prop) (w : World) : Kp B w w := ⟨rfl, rfl, rfl, Nat.le_refl _, fun _ _ _ => rfl⟩
theorem Kp.trans {B C : Nat → Prop} {a b c : World} (h : Kp B a b) (k : Kp C b c) (hC : ∀ g, g < a.heap.size → C g → B g) : Kp B a c :=
  ⟨k.os.trans h.os, k.tape.trans h.tape, k.output.trans h.output, Nat.le_trans h.size k.size, fun g hg hB => (k.obj g (Nat.lt_of_lt_of_le hg h.size) (fun hc => hB (hC g hg hc))).trans (h.obj g hg hB)⟩
theorem Kp.mono {B C : Nat → Prop} {a b : World} (h : Kp B a b) (hm : ∀ g, g < a.heap.size → B g → C g) : Kp C a b :=
  ⟨h.os, h.tape, h.output, h.size, fun g hg hC => h.obj g hg (fun hB => hC (hm g hg hB))⟩
theorem Kp.row {B : Nat → Prop} {w w' : World} (h : Kp B w w') {g : Nat} {o : Obj} (e : w.heap[g]? = some o) (hB : ¬ B g) : w'.heap[g]? = some o := (h.obj g (row_lt e) hB).trans e
theorem Kp.below {B : Nat → Prop} {w w' : World} (h : Kp B w w') {n : Nat} (hn : n ≤ w.heap.size) (hB : ∀ g, g < n → ¬ B g) : Below n w w' :=
  ⟨h.os, h.tape, h.output, h.size, fun g hg => h.obj g (Nat.lt_of_lt_of_le hg hn) (hB g hg)⟩
theorem Kp.of {w w' : World} (B : Nat → Prop) (h : Below w.heap.size w w') : Kp B w w' := ⟨h.os, h.tape, h.output, h.size, fun g hg _ => h.block g hg⟩
theorem Kp.set (w : World) (N i : Nat) (v : Value) : Kp (fun b => b = N) w (w.setCell ⟨N, i, none⟩ v) :=
  ⟨rfl, rfl, rfl, by simp [World.setCell], fun b _ hN => heap_setCell_other _ _ _ _ (by show b ≠ N; exact hN)⟩

theorem own_same {base : Nat} {w w' : World} {e : TypeId} {size n : Nat} {v : Value} {xs : List Value} (h : w.ownsRow base e size v n xs) (hs : ∀ g, v.ownBlock = some g → w'.heap[g]? = w.heap[g]?) : w'.ownsRow base e size v n xs := by
  obtain ⟨h1, h2 | ⟨g, c, cur, rfl, r1, r2, r⟩⟩ := h
  · exact ⟨h1, .inl h2⟩
  · exact ⟨h1, .inr ⟨g, c, cur, rfl, r1, (hs g rfl).trans r2, r⟩⟩
theorem own_ty {base : Nat} {w : World} {e : TypeId} {size n : Nat} {v : Value} {xs : List Value} (h : w.ownsRow base e size v n xs) {g : Nat} (hg : v.ownBlock = some g) : ∃ cur, w.heap[g]? = some (.cells cur e (0, 0)) := by
  obtain ⟨h1, ⟨rfl, _⟩ | ⟨g', c, cur, rfl, r1, r2, r⟩⟩ := h
  · cases hg
  · cases hg; exact ⟨cur, r2⟩
theorem own_on {base : Nat} {w w' : World} {e : TypeId} {size n : Nat} {v : Value} {xs : List Value} (h : w.ownsRow base e size v n xs) (hb : Below w.heap.size w w') : w'.ownsRow base e size v n xs :=
  own_same h (fun g hg => by obtain ⟨c, e⟩ := own_ty h hg; exact hb.block g (row_lt e))
theorem own_base {base base' : Nat} {w : World} {e : TypeId} {size n : Nat} {v : Value} {xs : List Value} (h : w.ownsRow base e size v n xs) (hb : base' ≤ base) : w.ownsRow base' e size v n xs := by
  obtain ⟨h1, h2 | ⟨g, c, cur, h2, r1, r⟩⟩ := h
  · exact ⟨h1, .inl h2⟩
  · exact ⟨h1, .inr ⟨g, c, cur, h2, Nat.le_trans hb r1, r⟩⟩

/-- an order. -/
structure Or where
  id : Int
  mb : Int
  ty : Int
  pr : Int
  vi : Int
  hi : Int
  pk : Int
def orow (o : Or) : Array Value := #[.int .u64 o.id, .int .u32 o.mb, .int .i64 o.ty, .int .i64 o.pr, .int .u64 o.vi, .int .u64 o.hi, .int .u64 o.pk]
/-- orders with their blocks. -/
abbrev LO := List (Nat × Or)
def pv (b : Nat) : Value := .pointer (some ⟨b, 0, none⟩)
def pvs (l : LO) : List Value := l.map fun x => pv x.1
theorem pvs_len (l : LO) : (pvs l).length = l.length := by simp [pvs]
/-- a slice begins a block. -/
def OfP (p : Option Addr) (b : Nat) : Prop := p = some ⟨b, 0, none⟩
theorem OfP.mk (g : Nat) : OfP (some ⟨g, 0, none⟩) g := rfl
theorem OfP.eq {g b : Nat} (h : OfP (some ⟨g, 0, none⟩) b) : b = g := by injection h with h; injection h with h; exact h.symm
/-- a list of orders in memory. -/
structure Li (w : World) (p : Option Addr) (c : Nat) (l : LO) : Prop where
  own : w.ownsRow 0 74 1 (.slice p l.length c) l.length (pvs l)
  at' : ∀ x ∈ l, w.heap[x.1]? = some (.cells (orow x.2) 53 (0, 0))
theorem Li.some {w : World} {p : Option Addr} {c : Nat} {l : LO} (h : Li w p c l) (hl : 0 < l.length) : ∃ g cur, p = some ⟨g, 0, none⟩ ∧ w.heap[g]? = some (.cells cur 74 (0, 0)) ∧ cur.size = c ∧ l.length ≤ c ∧ c ≤ maxLen ∧ ∀ i (hi : i < l.length), cur[i]? = some (pv (l[i]).1) := by
  obtain ⟨h1, ⟨e, e2⟩ | ⟨g, c', cur, e, r1, r2, r3, r4, r5, r6⟩⟩ := h.own
  · omega
  · obtain ⟨rfl, _, rfl⟩ := Value.slice.inj e
    refine ⟨g, cur, rfl, r2, by omega, r3, r4, fun i hi => ?_⟩
    have := congrArg (fun z => z[i]?) r6
    simp only [Nat.mul_one, List.getElem?_take, hi, if_true, Array.getElem?_toList] at this
    rw [this]
    simp [pvs, hi]
theorem Li.cell {w : World} {p : Option Addr} {c : Nat} {l : LO} (h : Li w p c l) {i : Nat} (hi : i < l.length) : ∃ g, p = Option.some ⟨g, 0, none⟩ ∧ w.cell? ⟨g, i, none⟩ = Option.some (pv (l[i]).1) ∧ w.heap[(l[i]).1]? = Option.some (.cells (orow (l[i]).2) 53 (0, 0)) := by
  obtain ⟨g, cur, rfl, r, _, _, _, hc⟩ := h.some (by omega)
  exact ⟨g, rfl, by rw [row_cell r]; exact hc i hi, h.at' _ (List.getElem_mem hi)⟩
theorem Li.on {w w' : World} {p : Option Addr} {c : Nat} {l : LO} (h : Li w p c l) (hb : Below w.heap.size w w') : Li w' p c l :=
  ⟨own_on h.own hb, fun x hx => row_on (h.at' x hx) hb⟩
theorem Li.kept {w w' : World} {B : Nat → Prop} {p : Option Addr} {c : Nat} {l : LO} (h : Li w p c l) (hk : Kp B w w') (h1 : ∀ g, p = Option.some ⟨g, 0, none⟩ → ¬ B g) (h2 : ∀ x ∈ l, ¬ B x.1) : Li w' p c l := by
  refine ⟨own_same h.own (fun g hg => ?_), fun x hx => hk.row (h.at' x hx) (h2 x hx)⟩
  obtain ⟨cur, e⟩ := own_ty h.own hg
  refine hk.obj g (row_lt e) ?_
  obtain ⟨_, ⟨e, _⟩ | ⟨g', c', cur, e, _⟩⟩ := h.own
  · rw [e] at hg; cases hg
  · have e5 := (Value.slice.inj e).1
    rw [e] at hg; cases hg
    exact h1 _ e5
end Go.Proofs.Ythdikkchblmebaa
