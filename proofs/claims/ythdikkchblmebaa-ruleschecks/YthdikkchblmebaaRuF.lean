/-
  An order is enqueued; the order that is dropped; the first one again.
-/
import Derived.Test.YthdikkchblmebaaRuB
namespace Go.Proofs.Ythdikkchblmebaa
open Go.RowKit Go.Deep Go.Shelf
set_option linter.unusedVariables false
set_option linter.unusedSimpArgs false
set_option maxHeartbeats 2000000
set_option maxRecDepth 100000
theorem set_row {w : World} {B k : Nat} {row : Array Value} {t : TypeId} (v : Value) (h : w.heap[B]? = some (.cells row t (0, 0))) : (w.setCell ⟨B, k, none⟩ v).heap[B]? = some (.cells (row.setIfInBounds k v) t (0, 0)) := heap_setCell_same w B k row t v h
theorem Li.ty {w : World} {p : Option Addr} {c : Nat} {l : LO} (h : Li w p c l) {g : Nat} (hg : OfP p g) : ∃ cur, w.heap[g]? = Option.some (Obj.cells cur 74 (0, 0)) := by
  subst hg; exact own_ty h.own rfl
theorem li_set {w : World} {p : Option Addr} {c B k : Nat} {l : LO} {row : Array Value} {t : TypeId} {v : Value} (h : Li w p c l) (hB : w.heap[B]? = some (.cells row t (0, 0))) (t1 : t ≠ 74) (t2 : t ≠ 53) : Li (w.setCell ⟨B, k, none⟩ v) p c l :=
  h.kept (Kp.set w B k v) (fun g hg e => by
    obtain ⟨cur, hc⟩ := h.ty hg
    exact row_ne hB hc t1 e.symm) (fun x hx e => row_ne hB (h.at' x hx) t2 e.symm)
end Go.Proofs.Ythdikkchblmebaa
