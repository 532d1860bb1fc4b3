/-
  What stands in WireAlls between two calls.
-/
import Derived.Test.YtndpihbillfhbaaDoorWaZ
import Derived.Test.YtndpihbillfhbaaDoorRdB
namespace Go.Proofs.YtndpihbillfhbaaDoor
open Go.RowKit Go.Deep Crc
set_option linter.unusedVariables false
set_option linter.unusedSimpArgs false
set_option maxRecDepth 100000
theorem OwD.rd {base : Nat} {W : World} {v : Value} {cs : List (List Nat)} {l : List (Value × Int)} (h : OwD base W v l) (t : Tl cs l) : PwR W v l := by
  have h9 : ∀ x ∈ l, (pw x).length = 9 := fun x hx => by
    obtain ⟨k, a0, a1, a2, a3, a4, a5, a6, e⟩ := t.form x hx
    simp [pw, e, Value.cells]
  have hh := h
  obtain ⟨h1, ⟨rfl, e⟩ | ⟨g, c, cur, rfl, r1, r2, r3⟩⟩ := h
  · exact ⟨⟨none, 0, by rw [e], fun i hi => by omega⟩⟩
  · refine ⟨⟨some ⟨g, 0, none⟩, c, rfl, fun i hi => ⟨g, rfl, (Array.getElem?_eq_some_iff.1 r2).1, fun j u hj => ?_⟩⟩⟩
    have hj9 : j < 9 := by
      have := h9 _ (List.getElem_mem hi)
      have := (List.getElem?_eq_some_iff.1 hj).1
      omega
    rw [World.ownsRow.cellAt hh (i * 9 + j) (by omega), pws_get h9 hi hj9]
    exact hj
/-- a byte of one's own is written. -/
theorem own_set {base : Nat} {w : World} {g n c : Nat} {zs : List Nat} (h : w.ownsRow base 5 1 (.slice (some ⟨g, 0, none⟩) n c) n (bv zs)) {i : Nat} (hi : i < n) (x : Nat) : (w.setCell ⟨g, i, none⟩ (.int .u8 (x : Nat))).ownsRow base 5 1 (.slice (some ⟨g, 0, none⟩) n c) n (bv (zs.set i x)) := by
  obtain ⟨h1, ⟨e, _⟩ | ⟨g', c', cur, e, r1, r2, r3, r4, r5, r6⟩⟩ := h
  · cases e
  · cases e
    refine ⟨by simpa [bv] using h1, .inr ⟨g, c, cur.setIfInBounds i (.int .u8 (x : Nat)), rfl, r1, heap_setCell_same w g i cur 5 _ r2, r3, r4, by simpa using r5, ?_⟩⟩
    rw [Nat.mul_one] at r6 ⊢
    rw [Array.toList_setIfInBounds, List.take_set, r6]
    simp [bv, List.map_set]
theorem own_kept {base : Nat} {w : World} {g i : Nat} {v u : Value} {n : Nat} {zs : List Nat} (h : w.ownsRow base 5 1 v n (bv zs)) (hg : ∀ g', v.ownBlock = some g' → g' ≠ g) : (w.setCell ⟨g, i, none⟩ u).ownsRow base 5 1 v n (bv zs) :=
  own_same h (fun g' hg' => heap_setCell_other _ _ _ _ (by show g' ≠ g; exact hg g' hg'))
/-- bytes handed in, bytes of one's own, boxes. -/
structure Al (w : World) (ST RC CB gi ci : Nat) (pn : Option Addr) (cn : Nat) (stop : Int) (cur : List Nat) (W : World) : Prop where
  st : W.heap[ST]? = some (.cells #[.int .i64 stop] 3 (0, 0))
  rc : W.heap[RC]? = some (.cells #[.bool false] 4 (0, 0))
  cb : W.heap[CB]? = some (.cells #[.slice (some ⟨gi, 0, none⟩) cur.length ci] 22 (0, 0))
  inn : W.ownsRow w.heap.size 5 1 (.slice (some ⟨gi, 0, none⟩) (cur.length + 5) ci) (cur.length + 5) (bv (cur ++ [1, 2, 3, 4, 5]))
  now : W.ownsRow w.heap.size 5 1 (.slice pn cur.length cn) cur.length (bv cur)
  ap : ∀ g, (Value.slice pn cur.length cn).ownBlock = some g → g ≠ gi
  bel : Below w.heap.size w W
  oc : Oct cur
theorem Al.on {w : World} {ST RC CB gi ci : Nat} {pn : Option Addr} {cn : Nat} {stop : Int} {cur : List Nat} {W W' : World} (h : Al w ST RC CB gi ci pn cn stop cur W) (b : Below W.heap.size W W') : Al w ST RC CB gi ci pn cn stop cur W' := by
  have lt : ∀ {j : Nat} {o : Obj}, W.heap[j]? = some o → W'.heap[j]? = some o := fun e => (b.block _ (Array.getElem?_eq_some_iff.1 e).1).trans e
  refine ⟨lt h.st, lt h.rc, lt h.cb, own_same h.inn (fun g hg => ?_), own_same h.now (fun g hg => ?_), h.ap, h.bel.trans (b.mono h.bel.size), h.oc⟩
  · obtain ⟨cur, e⟩ := own_ty h.inn hg; exact b.block _ (Array.getElem?_eq_some_iff.1 e).1
  · obtain ⟨cur, e⟩ := own_ty h.now hg; exact b.block _ (Array.getElem?_eq_some_iff.1 e).1
theorem Al.sq {w : World} {ST RC CB gi ci : Nat} {pn : Option Addr} {cn : Nat} {stop : Int} {cur : List Nat} {W : World} (h : Al w ST RC CB gi ci pn cn stop cur W) : Sq W pn cn cur := by
  have hh := h.now
  obtain ⟨h1, ⟨e, e2⟩ | ⟨g, c, cu, e, r1, r2, r3, r4⟩⟩ := h.now
  · obtain ⟨rfl, h2, rfl⟩ := Value.slice.inj e
    exact ⟨by omega, fun _ => rfl, .inl (List.eq_nil_of_length_eq_zero e2)⟩
  · cases e
    refine ⟨r3, (fun e => by cases e), .inr ⟨g, 0, rfl, fun i hi => ?_⟩⟩
    have := World.ownsRow.cellAt hh i (by simpa using hi)
    rw [bv_get cur i hi] at this
    simpa using this
/-- what All is given: the bytes ahead of the five. -/
theorem Al.sx {w : World} {ST RC CB gi ci : Nat} {pn : Option Addr} {cn : Nat} {stop : Int} {cur : List Nat} {W : World} (h : Al w ST RC CB gi ci pn cn stop cur W) : Sx W (.slice (some ⟨gi, 0, none⟩) cur.length ci) cur := by
  refine .inr (.inr ⟨gi, 0, ci, rfl, fun i hi => ?_⟩)
  have := World.ownsRow.cellAt h.inn i (by omega)
  rw [bv_get (cur ++ [1, 2, 3, 4, 5]) i (by simp; omega), List.getElem_append_left hi] at this
  simpa using this
end Go.Proofs.YtndpihbillfhbaaDoor
