/-
  IndexTwo: what stands at its ends; a room that can't be.
-/
import Derived.Test.YtehjmdolmkbncaaArgsS
import Derived.Test.YtehjmdolmkbncaaIxL
import Derived.Test.YtehjmdolmkbncaaTwA
import Derived.Deep.RegionHeld3
import Derived.Deep.RegionWith
namespace Go.Proofs.Ytehjmdolmkbncaa
open Go.RowKit Go.Deep
set_option linter.unusedVariables false
set_option linter.unusedSimpArgs false
set_option maxHeartbeats 4000000
set_option maxRecDepth 100000
attribute [local go_sem] Oper.semAt_some
theorem nilf (f : Fn) (x y : Array Value) (w : World) : Sem.run Try.prog (binOp BinOp.eql 61 (Value.func f x y) Value.nilFunc) w = .ok (.bool false) w := rfl
/-- the cell of what is answered, ahead of all. -/
structure Rq (w : World) (R : Nat) (W : World) : Prop where
  r : W.heap[R]? = some (.cells #[.bool false] 4 (0, 0))
  bel : Below w.heap.size w W
theorem Rq.new (w : World) : Rq w w.heap.size (w.alloc (.cells #[.bool false] 4)) := ⟨World.alloc_heap_new _ _, (Below.refl _ w).alloc (Nat.le_refl _) _⟩
theorem Rq.on {w : World} {R : Nat} {W W' : World} (h : Rq w R W) (b : Below W.heap.size W W') : Rq w R W' := ⟨(b.block _ (row_lt h.r)).trans h.r, h.bel.trans (b.mono h.bel.size)⟩
theorem Rq.fin {w : World} {W : World} (h : Rq w w.heap.size W) : W.frozen? ⟨w.heap.size, 0, none⟩ = false ∧ W.cell? ⟨w.heap.size, 0, none⟩ = some (.bool false) ∧ (W.setCell ⟨w.heap.size, 0, none⟩ (.bool true)).cell? ⟨w.heap.size, 0, none⟩ = some (.bool true) ∧ Below w.heap.size w (W.setCell ⟨w.heap.size, 0, none⟩ (.bool true)) :=
  ⟨frozen_of_row W _ 0 _ _ h.r, row_cell h.r 0, row_cell (heap_setCell_same W w.heap.size 0 _ 4 (.bool true) h.r) 0, h.bel.setCell (by show w.heap.size ≤ w.heap.size; omega) _⟩
theorem two_bad {room : Int} (h : room < 1 ∨ 65536 < room) (more : Int) (q p : Option Addr) (cap m cap2 m2 : Nat) (w : World) :
    Calls Try.prog 8 #[.int .i64 room, .int .i64 more, .slice q m cap, .slice p m2 cap2] w fun e w' => e = .returned (.bool true) ∧ Below w.heap.size w w' := by
  have HN := hid (fun u => new_bad h u)
  have HLV := hid (lives_any (w.alloc (.cells #[.bool false] 4)))
  have HR0 := hid (Rq.new w)
  have cb : (decide (room < 1) = true) ∨ (decide (room < 1) = false ∧ decide (65536 < room) = true) := by
    by_cases h1 : room < 1
    · exact .inl (by simpa using h1)
    · exact .inr ⟨by simpa using h1, by simp; omega⟩
  clear h
  rcases cb with cb | ⟨cb, cc⟩
  all_goals
    go_enter Try.func8, Try.ntmps8
    go_wp2_with (first | (go_at_call 17; with_reducible refine (HN.out _).mono ?_; rintro e w9 ⟨rfl, h9⟩; subst w9) | (go_at_call 18; with_reducible refine (HLV.out).mono ?_; rintro e w1 ⟨rfl, hb⟩; obtain ⟨f1, f4, f2, f3⟩ := (HR0.out.on hb).fin; have HB := hid f3; have HF2 := hid f2; clear f2 f3 hb; refine Hid.out ?_))
    refine hid ?_
    go_wp2_with (first | (go_at_call 17; with_reducible refine (HN.out _).mono ?_; rintro e w9 ⟨rfl, h9⟩; subst w9))
    refine bodyPost_ret (v := .bool true) (by have f2 := HF2.out; simp [results, Try.f8, go_sem, f2]) rfl ?_
    exact ⟨rfl, HB.out⟩
/-- what stands behind the loop over All. -/
structure Te (w : World) (R CY X P Y PY n room m roo : Nat) (T T' : Ix.Tab) (N D : Nat) (W : World) : Prop where
  tq : Tq w R CY X P Y PY n room m roo T T' W
  rN : W.heap[N]? = some (.cells #[.int .i64 (Ix.cnt T n : Nat)] 3 (0, 0))
  rD : W.heap[D]? = some (.deferred (some []))
theorem Te.on {w : World} {R CY X P Y PY n room m roo : Nat} {T T' : Ix.Tab} {N D : Nat} {W W' : World} (h : Te w R CY X P Y PY n room m roo T T' N D W) (b : Below W.heap.size W W') : Te w R CY X P Y PY n room m roo T T' N D W' :=
  ⟨h.tq.on b, (b.block _ (row_lt h.rN)).trans h.rN, (b.block _ (row_lt h.rD)).trans h.rD⟩
theorem Te.cy {w : World} {R CY X P Y PY n room m roo : Nat} {T T' : Ix.Tab} {N D : Nat} {W : World} (h : Te w R CY X P Y PY n room m roo T T' N D W) : W.cell? ⟨CY, 0, none⟩ = some (.pointer (some ⟨Y, 0, none⟩)) := row_cell h.tq.cy 0
theorem Te.cN {w : World} {R CY X P Y PY n room m roo : Nat} {T T' : Ix.Tab} {N D : Nat} {W : World} (h : Te w R CY X P Y PY n room m roo T T' N D W) : W.cell? ⟨N, 0, none⟩ = some (.int .i64 (Ix.cnt T n : Nat)) := row_cell h.rN 0
theorem Te.fin {w : World} {R CY X P Y PY n room m roo : Nat} {T T' : Ix.Tab} {N D : Nat} {W W' : World} (h : Te w R CY X P Y PY n room m roo T T' N D W) (b : Below W.heap.size W W') (hR : w.heap.size = R) (hD : w.heap.size ≤ D) :
    W'.frozen? ⟨R, 0, none⟩ = false ∧ W'.cell? ⟨R, 0, none⟩ = some (.bool false) ∧ (W'.setCell ⟨R, 0, none⟩ (.bool true)).heap[D]? = some (.deferred (some [])) ∧
    ((W'.setCell ⟨R, 0, none⟩ (.bool true)).putObj D (.deferred none)).cell? ⟨R, 0, none⟩ = some (.bool true) ∧ Below w.heap.size w ((W'.setCell ⟨R, 0, none⟩ (.bool true)).putObj D (.deferred none)) := by
  have k := h.on b
  have ne : D ≠ R := fun e => by subst e; have := k.tq.r; rw [k.rD] at this; cases this
  have r1 := heap_setCell_same W' R 0 _ 4 (.bool true) k.tq.r
  have d1 : (W'.setCell ⟨R, 0, none⟩ (.bool true)).heap[D]? = some (.deferred (some [])) := by
    rw [heap_setCell_other _ _ _ _ (by show D ≠ R; exact ne)]; exact k.rD
  have b1 : Below w.heap.size w (W'.setCell ⟨R, 0, none⟩ (.bool true)) := k.tq.bel.setCell (by show w.heap.size ≤ R; omega) _
  refine ⟨frozen_of_row W' _ 0 _ _ k.tq.r, row_cell k.tq.r 0, d1, ?_, b1.trans (belowK_b (w := w) (Nat.le_refl _) _ D _ _ hD d1 rfl rfl)⟩
  have e2 : ((W'.setCell ⟨R, 0, none⟩ (.bool true)).putObj D (.deferred none)).heap[R]? = _ := (World.putObj_heap_other (Ne.symm ne)).trans r1
  exact row_cell e2 0
end Go.Proofs.Ytehjmdolmkbncaa
