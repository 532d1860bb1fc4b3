/-
  Orders in memory; a number put behind one's own.
-/
import Derived.Test.YtjpkodllemoniaaDoorSsM
import Derived.Laws.OwnMore
import Derived.Laws.AppendOwnNone
import Derived.Deep.AppendLies
namespace Go.Proofs.YtjpkodllemoniaaDoor.Sr
open Go.RowKit Go.Deep
set_option linter.unusedVariables false
set_option linter.unusedSimpArgs false
set_option maxHeartbeats 8000000
set_option maxRecDepth 100000
/-- an order that rests. -/
structure Rt where
  id : Int
  mb : Int
  ty : Int
  pr : Int
  vi : Int
  hi : Int
  pk : Int
/-- orders in memory. -/
def Rz (w : World) (p : Option Addr) (l : List Rt) : Prop := ∀ i (h : i < l.length), ∃ g, p = some ⟨g, 0, none⟩ ∧ g < w.heap.size ∧ w.cell? ⟨g, i * 7, none⟩ = some (.int .u64 l[i].id) ∧ w.cell? ⟨g, i * 7 + 1, none⟩ = some (.int .u32 l[i].mb) ∧ w.cell? ⟨g, i * 7 + 2, none⟩ = some (.int .i64 l[i].ty) ∧ w.cell? ⟨g, i * 7 + 3, none⟩ = some (.int .i64 l[i].pr) ∧ w.cell? ⟨g, i * 7 + 4, none⟩ = some (.int .u64 l[i].vi) ∧ w.cell? ⟨g, i * 7 + 5, none⟩ = some (.int .u64 l[i].hi) ∧ w.cell? ⟨g, i * 7 + 6, none⟩ = some (.int .u64 l[i].pk)
theorem Rz.on {w w' : World} {p : Option Addr} {l : List Rt} (h : Rz w p l) (hb : Below w.heap.size w w') : Rz w' p l := fun i hi => by
  obtain ⟨g, e, hg, a0, a1, a2, a3, a4, a5, a6⟩ := h i hi
  exact ⟨g, e, Nat.lt_of_lt_of_le hg hb.size, (hb.cell (p := ⟨g, i * 7, none⟩) hg).trans a0, (hb.cell (p := ⟨g, i * 7 + 1, none⟩) hg).trans a1, (hb.cell (p := ⟨g, i * 7 + 2, none⟩) hg).trans a2, (hb.cell (p := ⟨g, i * 7 + 3, none⟩) hg).trans a3, (hb.cell (p := ⟨g, i * 7 + 4, none⟩) hg).trans a4, (hb.cell (p := ⟨g, i * 7 + 5, none⟩) hg).trans a5, (hb.cell (p := ⟨g, i * 7 + 6, none⟩) hg).trans a6⟩
theorem btr {a b c : World} (h : Below a.heap.size a b) (k : Below b.heap.size b c) : Below a.heap.size a c := h.trans (k.mono h.size)
theorem ball (w : World) (o : Obj) : Below w.heap.size w (w.alloc o) := (Below.refl _ _).alloc (Nat.le_refl _) _
theorem infoU : (Tryd.prog.info? 25).map (fun i => (i.zero, i.size, i.bytes)) = some (some (.int .u64 0), 1, 8) := by kernel_rfl
theorem own_cells {base : Nat} {w : World} {e : TypeId} {size n c : Nat} {ad : Addr} {xs : List Value} (h : w.ownsRow base e size (.slice (some ad) n c) n xs) : xs.length = n * size ∧ ∀ j u, xs[j]? = some u → w.cell? (ad.add j) = some u := by
  obtain ⟨h0, ⟨e1, _⟩ | ⟨g, c', cur, e1, r1, r2, r3, r4, r5, r6⟩⟩ := h
  · cases (Value.slice.inj e1).1
  · refine ⟨h0, fun j u hj => ?_⟩
    have e2 := (Value.slice.inj e1).1
    injection e2 with e2
    subst e2
    have hlt : j < xs.length := by rcases Nat.lt_or_ge j xs.length with h | h; exact h; rw [List.getElem?_eq_none h] at hj; cases hj
    rw [Addr.add_lit, Nat.zero_add, row_cell r2]
    have := congrArg (fun z => z[j]?) r6
    simp only [List.getElem?_take, Array.getElem?_toList] at this
    rw [if_pos (by omega)] at this
    rw [this, hj]
theorem own_form {base : Nat} {w : World} {e : TypeId} {size n : Nat} {v : Value} {xs : List Value} (h : w.ownsRow base e size v n xs) : ∃ p c, v = .slice p n c := by
  obtain ⟨_, ⟨e1, e2⟩ | ⟨g, c', cur, e1, _⟩⟩ := h
  · exact ⟨none, 0, by rw [e1, e2]⟩
  · exact ⟨_, _, e1⟩
/-- one number behind one's own. -/
theorem app_one {w : World} {ops : Array Oper} {rest : List Oper} {oo : Oper} {a : Act} {Q : Exit → Act → World → Prop} (hgd : oo.guard = none) (s x : Operand)
    (ho : oo.op = .call { callee := .builtin .append, args := #[s, x], argTypes := #[83, 83] })
    (base : Nat) (v : Value) (n : Nat) (ys : List Value) (hs : a.eval s = v) (hown : w.ownsRow base 25 1 v n ys)
    (g : Nat) (y : Int) (hx : a.eval x = .slice (some ⟨g, 0, none⟩) 1 1) (hg : w.cell? ⟨g, 0, none⟩ = some (.int .u64 y))
    (hn : n ≤ 8192) (hbase : base ≤ w.heap.size)
    (h : ∀ v' w', w'.ownsRow base 25 1 v' (n + 1) (ys ++ [.int .u64 y]) → w.grownBy w' v.ownBlock → wpList Tryd.prog ops Q rest (a.put oo.dst v') w') : wpList Tryd.prog ops Q (oo :: rest) a w := by
  obtain ⟨i0, hi, hz0, hz1, hz2⟩ : ∃ i0, Tryd.prog.info? 25 = some i0 ∧ i0.zero = some (.int .u64 0) ∧ i0.size = 1 ∧ i0.bytes = 8 := by
    have := infoU
    cases hh : Tryd.prog.info? 25 with
    | none => rw [hh] at this; cases this
    | some i => rw [hh] at this; simp at this; exact ⟨i, rfl, this.1, this.2.1, this.2.2⟩
  exact wpList_append_own _ hgd s x 83 ho base 25 i0 _ 1 8 Tryd.underlying83 hi hz0 hz1 hz2 rfl (by decide) v n ys hs hown ⟨g, 0, none⟩ 1 1 [.int .u64 y] hx rfl (fun j u hj => by
    cases j with
    | zero => simp at hj; subst hj; exact hg
    | succ j => simp at hj) (by intro u hu; simp at hu; subst hu; rfl) (by unfold maxLen; omega) (by omega) hbase (fun v' w' h2 h3 _ => h v' w' h2 h3)
end Go.Proofs.YtjpkodllemoniaaDoor.Sr
