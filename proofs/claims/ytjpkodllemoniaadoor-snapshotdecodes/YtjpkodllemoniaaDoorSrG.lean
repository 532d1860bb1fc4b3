/-
  choosePivot: where the pivot lies.
-/
import Derived.Test.YtjpkodllemoniaaDoorSrA
namespace Go.Proofs.YtjpkodllemoniaaDoor.Sr
open Go.RowKit Go.Deep
set_option linter.unusedVariables false
set_option linter.unusedSimpArgs false
set_option maxHeartbeats 8000000
set_option maxRecDepth 100000
/-- a counter in a block of its own beside the numbers. -/
structure Cz (w : World) (g n : Nat) (l : List Int) (s : Nat) : Prop where
  uz : Uz w g n l
  ct : ∃ k : Int, w.heap[s]? = some (.cells #[.int .i64 k] 3 (0, 0))
theorem Cz.ne {w : World} {g n : Nat} {l : List Int} {s : Nat} (h : Cz w g n l s) : g ≠ s := by
  rintro rfl
  obtain ⟨cur, h1, _⟩ := h.uz.row
  obtain ⟨k, h2⟩ := h.ct
  rw [h1] at h2
  injection h2 with h2
  injection h2 with _ h2
  exact absurd h2 (by decide)
theorem Cz.drewN {w : World} {g n : Nat} {l : List Int} {s : Nat} (h : Cz w g n l s) (k : Nat) : Cz (w.drewN k) g n l s := ⟨h.uz.same rfl, h.ct⟩
theorem ord2_any (g cap n : Nat) (l : List Int) (a b s : Nat) (w : World) (h : Cz w g n l s) (ha : a < n) (hb : b < n) :
    Calls Tryd.prog 74 #[.slice (some ⟨g, 0, none⟩) n cap, .int .i64 a, .int .i64 b, .pointer (some ⟨s, 0, none⟩)] w fun e w' => ∃ x y : Nat, e = .returned (.tuple #[.int .i64 x, .int .i64 y]) ∧ ((x = a ∧ y = b) ∨ (x = b ∧ y = a)) ∧ Cz w' g n l s ∧ Kp (fun j => j = s) w w' := by
  have HC := hid h
  have HNE := hid h.ne
  obtain ⟨k, hk⟩ := h.ct
  have HK := hid hk
  obtain ⟨y, hy⟩ : ∃ y, gd l a = y := ⟨_, rfl⟩
  obtain ⟨z, hz⟩ : ∃ y, gd l b = y := ⟨_, rfl⟩
  have cy : w.cell? ⟨g, a, none⟩ = some (.int .u64 y) := by rw [← hy]; exact h.uz.cell ha
  have cz : w.cell? ⟨g, b, none⟩ = some (.int .u64 z) := by rw [← hz]; exact h.uz.cell hb
  have a0' : (0 : Int) ≤ (a : Int) := by omega
  have a2 : (a : Int) < (n : Int) := by omega
  have b0' : (0 : Int) ≤ (b : Int) := by omega
  have b2 : (b : Int) < (n : Int) := by omega
  clear h hy hz hk
  go_enter Tryd.func74, Tryd.ntmps74
  go_upto_region 1 with fail
  go_quiet (first | (go_at_call 63; with_reducible exact Calls.quiet_of_same (less_any _ _ _)))
  cases hb : decide (z < y) with
  | true =>
    have c0 : (w.drewN nq).cell? ⟨s, 0, none⟩ = some (.int .i64 k) := row_cell (w := w.drewN nq) HK.out 0
    have f0 : (w.drewN nq).frozen? ⟨s, 0, none⟩ = false := row_frz (w := w.drewN nq) HK.out 0
    clear hb cy cz
    go_wp2
    go_ret2
    refine ⟨b, a, rfl, .inr ⟨rfl, rfl⟩, ?_, ?_⟩
    · have hk2 := fun v => Kp.set (w.drewN nq) s 0 v
      obtain ⟨cur, h1, _⟩ := HC.out.uz.row
      refine ⟨(HC.out.uz.same (w' := w.drewN nq) rfl).same ((hk2 _).obj g (row_lt (w := w.drewN nq) h1) HNE.out), _, heap_setCell_same (w.drewN nq) s 0 _ _ _ HK.out⟩
    · exact (Kp.drewN _ w nq).trans (Kp.set _ s 0 _) (fun _ _ e => e)
  | false =>
    clear hb cy cz
    go_wp2
    go_ret2
    exact ⟨a, b, rfl, .inl ⟨rfl, rfl⟩, HC.out.drewN nq, Kp.drewN _ w nq⟩
theorem med_any (g cap n : Nat) (l : List Int) (a b c s : Nat) (w : World) (h : Cz w g n l s) (ha : a < n) (hb : b < n) (hc : c < n) :
    Calls Tryd.prog 72 #[.slice (some ⟨g, 0, none⟩) n cap, .int .i64 a, .int .i64 b, .int .i64 c, .pointer (some ⟨s, 0, none⟩)] w fun e w' => ∃ x : Nat, e = .returned (.int .i64 x) ∧ (x = a ∨ x = b ∨ x = c) ∧ Cz w' g n l s ∧ Kp (fun j => j = s) w w' := by
  have HC := hid h
  have C2 := hid (show ∀ (U : World) (a b : Nat), a < n → b < n → Cz U g n l s → Calls Tryd.prog 74 #[.slice (some ⟨g, 0, none⟩) n cap, .int .i64 a, .int .i64 b, .pointer (some ⟨s, 0, none⟩)] U fun e w' => ∃ x y : Nat, e = .returned (.tuple #[.int .i64 x, .int .i64 y]) ∧ Hid ((x = a ∧ y = b) ∨ (x = b ∧ y = a)) ∧ Hid (Cz w' g n l s) ∧ Hid (Kp (fun j => j = s) U w') from fun U a b h1 h2 h3 => (ord2_any g cap n l a b s U h3 h1 h2))
  have C1 := hid (C2.out w a b ha hb HC.out)
  clear h
  go_enter Tryd.func72, Tryd.ntmps72
  go_upto_region 2 with (go_at_call 74; with_reducible refine (C1.out).mono ?_; rintro e v1 ⟨x1, y1, rfl, E1, Z1, K1⟩)
  have hx1 : x1 < n ∧ y1 < n := by have := E1.out; omega
  have C3 := hid (C2.out v1 y1 c hx1.2 hc Z1.out)
  go_upto_region 3 with (go_at_call 74; with_reducible refine (C3.out).mono ?_; rintro e v2 ⟨x2, y2, rfl, E2, Z2, K2⟩)
  have hx2 : x2 < n ∧ y2 < n := by have := E2.out; omega
  have C4 := hid (C2.out v2 x1 x2 hx1.1 hx2.1 Z2.out)
  go_wp2_with (go_at_call 74; with_reducible refine (C4.out).mono ?_; rintro e v3 ⟨x3, y3, rfl, E3, Z3, K3⟩)
  go_ret
  refine ⟨y3, rfl, ?_, Z3.out, (K1.out.trans K2.out (fun _ _ e => e)).trans K3.out (fun _ _ e => e)⟩
  have := E1.out
  have := E2.out
  have := E3.out
  omega
theorem madj_any (g cap n : Nat) (l : List Int) (a s : Nat) (w : World) (h : Cz w g n l s) (ha : 1 ≤ a) (hb : a + 1 < n) (hn : n ≤ 1152921504606846976) :
    Calls Tryd.prog 71 #[.slice (some ⟨g, 0, none⟩) n cap, .int .i64 a, .pointer (some ⟨s, 0, none⟩)] w fun e w' => ∃ x : Nat, e = .returned (.int .i64 x) ∧ Hid (a ≤ x + 1 ∧ x ≤ a + 1) ∧ Hid (Cz w' g n l s) ∧ Hid (Kp (fun j => j = s) w w') := by
  obtain ⟨p, hp⟩ : ∃ p, a = p + 1 := ⟨a - 1, by omega⟩
  obtain ⟨q, hq⟩ : ∃ q, q = a + 1 := ⟨_, rfl⟩
  have w1 : IntKind.i64.wrap ((a : Int) - 1) = (p : Int) := by rw [IntKind.wrap_i64]; omega
  have w2 : IntKind.i64.wrap ((a : Int) + 1) = (q : Int) := by rw [IntKind.wrap_i64]; omega
  have CM := hid (med_any g cap n l p a q s w h (by omega) (by omega) (by omega))
  have HPQ := hid (show a = p + 1 ∧ q = a + 1 from ⟨hp, hq⟩)
  clear h hp hq
  go_enter Tryd.func71, Tryd.ntmps71
  go_wp2_with (go_at_call 72; with_reducible refine (CM.out).mono ?_; rintro e v1 ⟨x, rfl, hx, hc, hk⟩; have HX := hid hx; have HC := hid hc; have HK := hid hk; clear hx hc hk)
  go_ret
  exact ⟨x, rfl, hid (by have := HX.out; have := HPQ.out; omega), HC, HK⟩
end Go.Proofs.YtjpkodllemoniaaDoor.Sr
