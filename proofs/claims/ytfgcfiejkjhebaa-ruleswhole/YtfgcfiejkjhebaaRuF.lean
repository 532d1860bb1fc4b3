/-
  An order is enqueued; the order that is dropped; the first one again.
-/
import Derived.Test.YtfgcfiejkjhebaaRuE
namespace Go.Proofs.Ytfgcfiejkjhebaa
open Go.RowKit Go.Deep Go.Shelf
set_option linter.unusedVariables false
set_option linter.unusedSimpArgs false
set_option maxHeartbeats 2000000
set_option maxRecDepth 100000
theorem set_row {w : World} {B k : Nat} {row : Array Value} {t : TypeId} (v : Value) (h : w.heap[B]? = some (.cells row t (0, 0))) : (w.setCell ⟨B, k, none⟩ v).heap[B]? = some (.cells (row.setIfInBounds k v) t (0, 0)) := heap_setCell_same w B k row t v h
theorem Li.ty {w : World} {p : Option Addr} {c : Nat} {l : LO} (h : Li w p c l) {g : Nat} (hg : OfP p g) : ∃ cur, w.heap[g]? = Option.some (Obj.cells cur 87 (0, 0)) := by
  subst hg; exact own_ty h.own rfl
theorem li_set {w : World} {p : Option Addr} {c B k : Nat} {l : LO} {row : Array Value} {t : TypeId} {v : Value} (h : Li w p c l) (hB : w.heap[B]? = some (.cells row t (0, 0))) (t1 : t ≠ 87) (t2 : t ≠ 42) : Li (w.setCell ⟨B, k, none⟩ v) p c l :=
  h.kept (Kp.set w B k v) (fun g hg e => by
    obtain ⟨cur, hc⟩ := h.ty hg
    exact row_ne hB hc t1 e.symm) (fun x hx e => row_ne hB (h.at' x hx) t2 e.symm)
theorem drop_any (B k : Nat) (row : Array Value) (p : Option Addr) (c : Nat) (l : LO) (i : Nat) (w : World) (hB : w.heap[B]? = some (.cells row 67 (0, 0))) (hk : row[k]? = some (.slice p l.length c)) (h : Li w p c l) (hi : i < l.length) (hn : l.length ≤ 1048576) (hnd : (l.map (·.1)).Nodup) :
    Calls Try.prog 37 #[.pointer (some ⟨B, k, none⟩), .int .i64 i] w fun e w' => e = .returned (.tuple #[]) ∧ w'.heap[B]? = some (.cells (row.setIfInBounds k (.slice p (l.eraseIdx i).length c)) 67 (0, 0)) ∧ Li w' p c (l.eraseIdx i) ∧ Kp (fun b => b = B ∨ OfP p b) w w' := by
  have C := hid (delete_any p c l i w h hi hnd)
  have cB := row_cell hB k
  rw [hk] at cB
  have i1 : IntKind.i64.wrap ((i : Int) + 1) = (i : Int) + 1 := by rw [IntKind.wrap_i64]; omega
  obtain ⟨g, cur, rfl, hr, _⟩ := h.some (by omega)
  have hne : g ≠ B := row_ne hr hB (by decide)
  have hBg : ¬ OfP (some ⟨g, 0, none⟩) B := fun e => hne e.eq.symm
  have HB := hid hB
  have HK := hid hk
  have HL := hid h
  have HR := hid hr
  clear hB hk h hr
  go_enter Try.func37, Try.ntmps37
  go_wp2_with (go_at_call 55; with_reducible refine (C.out).mono ?_; rintro e w1 ⟨rfl, hli, hkp⟩; have hB1 := hid (hkp.row HB.out hBg); have f1 := row_frz hB1.out k; have c1 := (row_cell hB1.out k).trans HK.out; have H1 := hid hli; have H2 := hid hkp; clear hli hkp)
  go_end0
  exact ⟨rfl, set_row _ hB1.out, li_set H1.out hB1.out (by decide) (by decide), (H2.out.mono (fun _ _ h => Or.inr h)).trans (Kp.set _ _ _ _) (fun g _ h => .inl h)⟩
end Go.Proofs.Ytfgcfiejkjhebaa
