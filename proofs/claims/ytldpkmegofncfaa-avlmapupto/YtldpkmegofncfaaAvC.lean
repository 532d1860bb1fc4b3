/-
  turned, flat. Written by mkc.py.
-/
import Derived.Test.YtldpkmegofncfaaAvB
namespace Go.Proofs.Ytldpkmegofncfaa
open Go.RowKit Go.Deep
set_option linter.unusedVariables false
set_option linter.unusedSimpArgs false
theorem Tr.ofNd {w : World} {k v : Int} {l r : T} {p : Option Nat} (h : Tr w (.nd k v l r) p) : ∃ b, p = some b := by
  obtain ⟨b, _, _, e, _⟩ := h; exact ⟨b, e⟩

set_option maxHeartbeats 1000000 in
theorem turned0 {w : World} {k v a c : Int} {x y r : T} {p : Option Nat} (h : Tr w (.nd k v (.nd a c x y) r) p) (hb : x.n + y.n + r.n < 2 ^ 61) :
    Calls Try.prog 55 #[pb p, .int .i64 0] w fun e w' => ∃ b, e = .returned (pb (some b)) ∧ Tr w' (.nd a c x (.nd k v y r)) (some b) ∧ Below w.heap.size w w' := by
  have h0 := h
  obtain ⟨b, pl, pr, rfl, h1, h2, h3⟩ := h
  have h2' := h2
  obtain ⟨bl, px, py, rfl, g1, g2, g3⟩ := h2
  have c2 : w.cell? ⟨b, 2, none⟩ = some (pb (some bl)) := row_cell h1 2
  have d3 : w.cell? ⟨bl, 3, none⟩ = some (pb py) := row_cell g1 3
  have CA := hid (with0 h0 g3 (by omega))
  have CB := hid (show ∀ b' w', Tr w' (.nd k v y r) (some b') → Below w.heap.size w w' → Calls Try.prog 51 #[pb (some bl), .int .i64 1, pb (some b')] w' fun e w2 => ∃ b, e = .returned (pb (some b)) ∧ Tr w2 (.nd a c x (.nd k v y r)) (some b) ∧ Below w'.heap.size w' w2 from by
    intro b' w' ht hb'
    exact with1 (h2'.on hb') ht (by simp only [T.n]; omega))
  obtain ⟨z, hz⟩ : ∃ z, pb py = .pointer z := ⟨_, rfl⟩
  rw [hz] at d3 CA
  clear h0 h1 h2' h3 g1 g2 g3 hb hz
  simp only [pb, pa] at *
  go_enter Try.func55, Try.ntmps55
  go_wp2_with (first | (go_at_call 51; with_reducible refine (CA.out).mono ?_; rintro e w1 ⟨b', rfl, ht, hb'⟩; clear CA; have HB := hid hb'; have HT := hid ht; clear hb' ht; refine Hid.out ?_))
  refine hid ?_
  go_wp2_with (first | (go_at_call 51; with_reducible refine (CB.out _ _ HT.out HB.out).mono ?_; rintro e w2 ⟨b2, rfl, ht, hb'⟩; clear CB; have HB2 := hid hb'; have HT2 := hid ht; clear hb' ht; refine Hid.out ?_))
  refine hid ?_
  go_wp2_with fail
  go_ret
  exact ⟨b2, rfl, HT2.out, btr HB.out HB2.out⟩

set_option maxHeartbeats 1000000 in
theorem turned1 {w : World} {k v a c : Int} {l x y : T} {p : Option Nat} (h : Tr w (.nd k v l (.nd a c x y)) p) (hb : l.n + x.n + y.n < 2 ^ 61) :
    Calls Try.prog 55 #[pb p, .int .i64 1] w fun e w' => ∃ b, e = .returned (pb (some b)) ∧ Tr w' (.nd a c (.nd k v l x) y) (some b) ∧ Below w.heap.size w w' := by
  have h0 := h
  obtain ⟨b, pl, pr, rfl, h1, h2, h3⟩ := h
  have h2' := h3
  obtain ⟨bl, py, px, rfl, g1, g3, g2⟩ := h3
  have c2 : w.cell? ⟨b, 3, none⟩ = some (pb (some bl)) := row_cell h1 3
  have d3 : w.cell? ⟨bl, 2, none⟩ = some (pb py) := row_cell g1 2
  have CA := hid (with1 h0 g3 (by omega))
  have CB := hid (show ∀ b' w', Tr w' (.nd k v l x) (some b') → Below w.heap.size w w' → Calls Try.prog 51 #[pb (some bl), .int .i64 0, pb (some b')] w' fun e w2 => ∃ b, e = .returned (pb (some b)) ∧ Tr w2 (.nd a c (.nd k v l x) y) (some b) ∧ Below w'.heap.size w' w2 from by
    intro b' w' ht hb'
    exact with0 (h2'.on hb') ht (by simp only [T.n]; omega))
  obtain ⟨z, hz⟩ : ∃ z, pb py = .pointer z := ⟨_, rfl⟩
  rw [hz] at d3 CA
  clear h0 h1 h2' h2 g1 g2 g3 hb hz
  simp only [pb, pa] at *
  go_enter Try.func55, Try.ntmps55
  go_wp2_with (first | (go_at_call 51; with_reducible refine (CA.out).mono ?_; rintro e w1 ⟨b', rfl, ht, hb'⟩; clear CA; have HB := hid hb'; have HT := hid ht; clear hb' ht; refine Hid.out ?_))
  refine hid ?_
  go_wp2_with (first | (go_at_call 51; with_reducible refine (CB.out _ _ HT.out HB.out).mono ?_; rintro e w2 ⟨b2, rfl, ht, hb'⟩; clear CB; have HB2 := hid hb'; have HT2 := hid ht; clear hb' ht; refine Hid.out ?_))
  refine hid ?_
  go_wp2_with fail
  go_ret
  exact ⟨b2, rfl, HT2.out, btr HB.out HB2.out⟩
end Go.Proofs.Ytldpkmegofncfaa
