/-
  What is told of bytes, read again.
-/
import Derived.Test.YtniofmaefonkdaaDoorWpB
namespace Go.Proofs.YtniofmaefonkdaaDoor
open Go.RowKit Go.Deep Crc
set_option linter.unusedVariables false
set_option linter.unusedSimpArgs false
set_option maxRecDepth 100000
theorem below_drews {a b : World} (h : b.heap = a.heap) (h1 : b.os = a.os) (h2 : b.tape = a.tape) (h3 : b.output = a.output) : Below a.heap.size a b := ⟨h1, h2, h3, by rw [h]; exact Nat.le_refl _, fun _ _ => by rw [h]⟩
theorem own_sx {base : Nat} {w : World} {p : Option Addr} {n c : Nat} {xs : List Nat} (h : w.ownsRow base 5 1 (.slice p n c) xs.length (bv xs)) : Sx w (.slice p n c) xs := by
  have hh := h
  obtain ⟨h1, ⟨e, e2⟩ | ⟨g, c', cur, e, r1, r2, r3⟩⟩ := h
  · cases e
    exact .inl ⟨List.eq_nil_of_length_eq_zero e2, rfl⟩
  · cases e
    refine .inr (.inr ⟨g, 0, c, rfl, fun i hi => ?_⟩)
    have := World.ownsRow.cellAt hh i (by simpa using hi)
    rw [bv_get xs i hi] at this
    simpa using this
/-- an element, cell by cell. -/
theorem PwR.at {W : World} {q : Option Addr} {N cap : Nat} {l : List (Value × Int)} (h : PwR W (.slice q N cap) l) {i : Nat} (hi : i < l.length) {k a0 a1 a2 a3 a4 a5 a6 : Nat} {E : Int} (he : l[i] = (.agg #[.int .u8 (k : Nat), .int .u64 (a0 : Nat), .int .u64 (a1 : Nat), .int .u64 (a2 : Nat), .int .u64 (a3 : Nat), .int .u64 (a4 : Nat), .int .u64 (a5 : Nat), .int .u64 (a6 : Nat)], E)) :
    ∃ g, q = some ⟨g, 0, none⟩ ∧ W.cell? ⟨g, i * 9, none⟩ = some (.int .u8 (k : Nat)) ∧ W.cell? ⟨g, i * 9 + 1, none⟩ = some (.int .u64 (a0 : Nat)) ∧ W.cell? ⟨g, i * 9 + 2, none⟩ = some (.int .u64 (a1 : Nat)) ∧ W.cell? ⟨g, i * 9 + 3, none⟩ = some (.int .u64 (a2 : Nat)) ∧ W.cell? ⟨g, i * 9 + 4, none⟩ = some (.int .u64 (a3 : Nat)) ∧ W.cell? ⟨g, i * 9 + 5, none⟩ = some (.int .u64 (a4 : Nat)) ∧ W.cell? ⟨g, i * 9 + 6, none⟩ = some (.int .u64 (a5 : Nat)) ∧ W.cell? ⟨g, i * 9 + 7, none⟩ = some (.int .u64 (a6 : Nat)) ∧ W.cell? ⟨g, i * 9 + 8, none⟩ = some (.int .i64 E) := by
  obtain ⟨q', cap', e, hc⟩ := h.sl
  cases e
  obtain ⟨g, e1, _, h2⟩ := hc i hi
  rw [he] at h2
  exact ⟨g, e1, h2 0 _ rfl, h2 1 _ rfl, h2 2 _ rfl, h2 3 _ rfl, h2 4 _ rfl, h2 5 _ rfl, h2 6 _ rfl, h2 7 _ rfl, h2 8 _ rfl⟩
theorem told_sl (p : Option Addr) (n c : Nat) (xs : List Nat) (w : World) (hS : Sx w (.slice p n c) xs) (hx : Oct xs) (hlen : xs.length ≤ 1099511627776) (hL : Laid w) :
    Calls Tryd.prog 26 #[.slice p n c] w fun e w' => ∃ (vs : List (Value × Int)) (p' : Option Addr) (c' : Nat), e = .returned (.slice p' vs.length c') ∧ Hid (Tl (chs xs) vs) ∧ Hid (PwR w' (.slice p' vs.length c') vs) ∧ Hid (Below w.heap.size w w') := by
  refine (told_any p n c xs w hS hx hlen hL).mono ?_
  rintro e w' ⟨v', vs, rfl, t, o, b⟩
  obtain ⟨p', c', hv⟩ := own_form o
  subst hv
  exact ⟨vs, p', c', rfl, hid t, hid (o.rd t), hid b⟩
end Go.Proofs.YtniofmaefonkdaaDoor
