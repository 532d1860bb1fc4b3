/-
  choosePivot.
-/
import Derived.Test.YtjpkodllemoniaaDoorSrG
import Derived.RangeFuncRecord
namespace Go.Proofs.YtjpkodllemoniaaDoor.Sr
open Go.RowKit Go.Deep
set_option linter.unusedVariables false
set_option linter.unusedSimpArgs false
set_option maxHeartbeats 8000000
set_option maxRecDepth 100000
theorem Kp.below {B : Nat → Prop} {w w' : World} (h : Kp B w w') {n : Nat} (hn : n ≤ w.heap.size) (hB : ∀ g, g < n → ¬ B g) : Below n w w' :=
  ⟨h.os, h.tape, h.output, h.size, fun g hg => h.obj g (Nat.lt_of_lt_of_le hg hn) (hB g hg)⟩
/-- behind the choice: what the counter says, and the end. -/
theorem piv_any (g cap n : Nat) (l : List Int) (a b : Nat) (w : World) (h : Uz w g n l) (hab : a < b) (hbn : b ≤ n) (hn : n ≤ 1152921504606846976) :
    Calls Tryd.prog 60 #[.slice (some ⟨g, 0, none⟩) n cap, .int .i64 a, .int .i64 b] w fun e w' => ∃ (p : Nat) (t : Int), e = .returned (.tuple #[.int .i64 p, .int .i64 t]) ∧ a ≤ p ∧ p < b ∧ Below w.heap.size w w' := by
  obtain ⟨s, hs⟩ : ∃ s, w.heap.size = s := ⟨_, rfl⟩
  obtain ⟨W, hW⟩ : ∃ W, w.alloc (.cells #[.int .i64 0] 3) = W := ⟨_, rfl⟩
  have HBW := hid (show Below w.heap.size w W from by rw [← hW]; exact (Below.refl _ _).alloc (Nat.le_refl _) _)
  have hg : g < w.heap.size := by obtain ⟨cur, e, _⟩ := h.row; exact row_lt e
  have HC := hid (show Cz W g n l s from ⟨h.same (HBW.out.block g hg), 0, by rw [← hW, ← hs]; exact World.alloc_heap_new _ _⟩)
  obtain ⟨L, hL⟩ : ∃ L, L = b - a := ⟨_, rfl⟩
  obtain ⟨d, hd⟩ : ∃ d, d = L / 4 := ⟨_, rfl⟩
  obtain ⟨e2, he2⟩ : ∃ e, e = d * 2 := ⟨_, rfl⟩
  obtain ⟨e3, he3⟩ : ∃ e, e = d * 3 := ⟨_, rfl⟩
  obtain ⟨i, hi⟩ : ∃ i, i = a + d := ⟨_, rfl⟩
  obtain ⟨j, hj⟩ : ∃ j, j = a + e2 := ⟨_, rfl⟩
  obtain ⟨k, hk⟩ : ∃ k, k = a + e3 := ⟨_, rfl⟩
  have wL : IntKind.i64.wrap ((b : Int) - (a : Int)) = (L : Int) := by rw [IntKind.wrap_i64]; omega
  have td : ((L : Int)).tdiv 4 = (d : Int) := by rw [Int.tdiv_eq_ediv_of_nonneg (by omega)]; omega
  have wd : IntKind.i64.wrap (d : Int) = (d : Int) := by rw [IntKind.wrap_i64]; omega
  have w2 : IntKind.i64.wrap ((d : Int) * 2) = (e2 : Int) := by rw [IntKind.wrap_i64]; omega
  have w3 : IntKind.i64.wrap ((d : Int) * 3) = (e3 : Int) := by rw [IntKind.wrap_i64]; omega
  have wi : IntKind.i64.wrap ((a : Int) + (d : Int)) = (i : Int) := by rw [IntKind.wrap_i64]; omega
  have wj : IntKind.i64.wrap ((a : Int) + (e2 : Int)) = (j : Int) := by rw [IntKind.wrap_i64]; omega
  have wk : IntKind.i64.wrap ((a : Int) + (e3 : Int)) = (k : Int) := by rw [IntKind.wrap_i64]; omega
  have HEQ := hid (show L = b - a ∧ d = L / 4 ∧ e2 = d * 2 ∧ e3 = d * 3 ∧ i = a + d ∧ j = a + e2 ∧ k = a + e3 from ⟨hL, hd, he2, he3, hi, hj, hk⟩)
  have CM := hid (show ∀ (U : World) (x : Nat), 1 ≤ x → x + 1 < n → Cz U g n l s → Calls Tryd.prog 71 #[.slice (some ⟨g, 0, none⟩) n cap, .int .i64 x, .pointer (some ⟨s, 0, none⟩)] U fun e w' => ∃ y : Nat, e = .returned (.int .i64 y) ∧ Hid (x ≤ y + 1 ∧ y ≤ x + 1) ∧ Hid (Cz w' g n l s) ∧ Hid (Kp (fun j => j = s) U w') from fun U x h1 h2 h3 => madj_any g cap n l x s U h3 h1 h2 hn)
  have CD := hid (show ∀ (U : World) (x y z : Nat), x < n → y < n → z < n → Cz U g n l s → Calls Tryd.prog 72 #[.slice (some ⟨g, 0, none⟩) n cap, .int .i64 x, .int .i64 y, .int .i64 z, .pointer (some ⟨s, 0, none⟩)] U fun e w' => ∃ v : Nat, e = .returned (.int .i64 v) ∧ Hid (v = x ∨ v = y ∨ v = z) ∧ Hid (Cz w' g n l s) ∧ Hid (Kp (fun j => j = s) U w') from fun U x y z h1 h2 h3 h4 => med_any g cap n l x y z s U h4 h1 h2 h3)
  have HFIN := hid (show ∀ (V : World), Kp (fun j => j = s) W V → Below w.heap.size w V from fun V hV => HBW.out.trans (hV.below HBW.out.size (fun g hg e => by omega)))
  have HW := hid hW
  have HSS := hid hs
  clear h hW hs hL hd he2 he3 hi hj hk hg
  go_enter Tryd.func60, Tryd.ntmps60
  go_upto_region 3 with fail
  rw [HW.out, HSS.out]
  go_upto_region 6 with fail
  by_cases h8 : 8 ≤ L
  · have i8 : (8 : Int) ≤ (L : Int) := by omega
    by_cases h50 : 50 ≤ L
    · have i50 : (50 : Int) ≤ (L : Int) := by omega
      have C1 := hid (CM.out W i (by have := HEQ.out; omega) (by have := HEQ.out; omega) HC.out)
      go_upto_region 9 with (go_at_call 71; with_reducible refine (C1.out).mono ?_; rintro e v1 ⟨x1, rfl, E1, Z1, K1⟩)
      have C2 := hid (CM.out v1 j (by have := HEQ.out; omega) (by have := HEQ.out; omega) Z1.out)
      go_upto_region 10 with (go_at_call 71; with_reducible refine (C2.out).mono ?_; rintro e v2 ⟨x2, rfl, E2, Z2, K2⟩)
      have C3 := hid (CM.out v2 k (by have := HEQ.out; omega) (by have := HEQ.out; omega) Z2.out)
      go_upto_region 11 with (go_at_call 71; with_reducible refine (C3.out).mono ?_; rintro e v3 ⟨x3, rfl, E3, Z3, K3⟩)
      have C4 := hid (CD.out v3 x1 x2 x3 (by have := E1.out; have := HEQ.out; omega) (by have := E2.out; have := HEQ.out; omega) (by have := E3.out; have := HEQ.out; omega) Z3.out)
      go_upto_region 12 with (go_at_call 72; with_reducible refine (C4.out).mono ?_; rintro e v4 ⟨x4, rfl, E4, Z4, K4⟩)
      have HK := hid (((K1.out.trans K2.out (fun _ _ e => e)).trans K3.out (fun _ _ e => e)).trans K4.out (fun _ _ e => e))
      have HB := hid (show a ≤ x4 ∧ x4 < b from by have := E1.out; have := E2.out; have := E3.out; have := E4.out; have := HEQ.out; omega)
      obtain ⟨c, hc⟩ := Z4.out.ct
      have c0 : v4.cell? ⟨s, 0, none⟩ = some (.int .i64 c) := row_cell hc 0
      clear hc
      by_cases q0 : c = 0
      · subst q0
        go_wp2
        go_ret2
        first | exact ⟨x4, 1, rfl, HB.out.1, HB.out.2, HFIN.out _ HK.out⟩ | exact ⟨x4, ⟨1, rfl⟩, HB.out.1, HB.out.2, HFIN.out _ HK.out⟩
      · have z0 : (c == 0) = false := by simp [q0]
        by_cases q1 : c = 12
        · subst q1
          go_wp2
          go_ret2
          first | exact ⟨x4, 2, rfl, HB.out.1, HB.out.2, HFIN.out _ HK.out⟩ | exact ⟨x4, ⟨2, rfl⟩, HB.out.1, HB.out.2, HFIN.out _ HK.out⟩
        · have z1 : (c == 12) = false := by simp [q1]
          clear q0 q1
          go_wp2
          go_ret2
          first | exact ⟨x4, 0, rfl, HB.out.1, HB.out.2, HFIN.out _ HK.out⟩ | exact ⟨x4, ⟨0, rfl⟩, HB.out.1, HB.out.2, HFIN.out _ HK.out⟩
    · have i50 : ¬ (50 : Int) ≤ (L : Int) := by omega
      have d50 : decide ((50 : Int) ≤ (L : Int)) = false := decide_eq_false i50
      have C4 := hid (CD.out W i j k (by have := HEQ.out; omega) (by have := HEQ.out; omega) (by have := HEQ.out; omega) HC.out)
      go_upto_region 12 with (go_at_call 72; with_reducible refine (C4.out).mono ?_; rintro e v4 ⟨x4, rfl, E4, Z4, K4⟩)
      have HB := hid (show a ≤ x4 ∧ x4 < b from by have := E4.out; have := HEQ.out; omega)
      obtain ⟨c, hc⟩ := Z4.out.ct
      have c0 : v4.cell? ⟨s, 0, none⟩ = some (.int .i64 c) := row_cell hc 0
      clear hc
      by_cases q0 : c = 0
      · subst q0
        go_wp2
        go_ret2
        first | exact ⟨x4, 1, rfl, HB.out.1, HB.out.2, HFIN.out _ K4.out⟩ | exact ⟨x4, ⟨1, rfl⟩, HB.out.1, HB.out.2, HFIN.out _ K4.out⟩
      · have z0 : (c == 0) = false := by simp [q0]
        by_cases q1 : c = 12
        · subst q1
          go_wp2
          go_ret2
          first | exact ⟨x4, 2, rfl, HB.out.1, HB.out.2, HFIN.out _ K4.out⟩ | exact ⟨x4, ⟨2, rfl⟩, HB.out.1, HB.out.2, HFIN.out _ K4.out⟩
        · have z1 : (c == 12) = false := by simp [q1]
          clear q0 q1
          go_wp2
          go_ret2
          first | exact ⟨x4, 0, rfl, HB.out.1, HB.out.2, HFIN.out _ K4.out⟩ | exact ⟨x4, ⟨0, rfl⟩, HB.out.1, HB.out.2, HFIN.out _ K4.out⟩
  · have i8 : ¬ (8 : Int) ≤ (L : Int) := by omega
    have d8 : decide ((8 : Int) ≤ (L : Int)) = false := decide_eq_false i8
    have HB := hid (show a ≤ j ∧ j < b from by have := HEQ.out; omega)
    obtain ⟨c, hc⟩ := HC.out.ct
    have c0 : W.cell? ⟨s, 0, none⟩ = some (.int .i64 c) := row_cell hc 0
    clear hc
    by_cases q0 : c = 0
    · subst q0
      go_wp2
      go_ret2
      first | exact ⟨j, 1, rfl, HB.out.1, HB.out.2, HBW.out⟩ | exact ⟨j, ⟨1, rfl⟩, HB.out.1, HB.out.2, HBW.out⟩
    · have z0 : (c == 0) = false := by simp [q0]
      by_cases q1 : c = 12
      · subst q1
        go_wp2
        go_ret2
        first | exact ⟨j, 2, rfl, HB.out.1, HB.out.2, HBW.out⟩ | exact ⟨j, ⟨2, rfl⟩, HB.out.1, HB.out.2, HBW.out⟩
      · have z1 : (c == 12) = false := by simp [q1]
        clear q0 q1
        go_wp2
        go_ret2
        first | exact ⟨j, 0, rfl, HB.out.1, HB.out.2, HBW.out⟩ | exact ⟨j, ⟨0, rfl⟩, HB.out.1, HB.out.2, HBW.out⟩
end Go.Proofs.YtjpkodllemoniaaDoor.Sr
