/-
  BitmapNumbers: of a set of any numbers, every question of any numbers. Written by mkqn.py.
-/
import Derived.Test.YtcbfgodknonefaaDoorBnP
import Derived.Test.YtcbfgodknonefaaDoorBnO
import Derived.Test.YtcbfgodknonefaaDoorBmJ
namespace Go.Proofs.YtcbfgodknonefaaDoor
open Go.RowKit Go.Deep Bt
set_option linter.unusedVariables false
set_option maxRecDepth 100000
set_option maxHeartbeats 8000000

theorem ask_all (k : Int) (hk : 2 ≤ k ∧ k ≤ 10) (b : Nat) (S : Nat → Bool) (p : Option Addr) (cap : Nat) (l : List Int) (hS : Tl S l) (x1 x2 A B : Int) (w : World) (hB : Bm w b S) (hL : Laid w) (h0 : 0 < b) (hl : Lr w p l) (hg : ∀ g, p = some ⟨g, 0, none⟩ → g ≠ b) (hA : A < 9223372036854775808) (hB2 : B < 9223372036854775808) :
    Calls Tryd.prog 17 #[.agg #[.pointer (some ⟨b, 0, none⟩), .slice p l.length cap], .agg #[.int .i64 k, .int .i64 x1, .int .i64 x2, .int .i64 A, .int .i64 B]] w fun e w' => e = .returned (.bool true) ∧ Ko b w w' ∧ Bm w' b S := by
  rcases (by omega : k = 2 ∨ k = 3 ∨ k = 4 ∨ k = 5 ∨ k = 6 ∨ k = 7 ∨ k = 8 ∨ k = 9 ∨ k = 10) with rfl | rfl | rfl | rfl | rfl | rfl | rfl | rfl | rfl
  · exact ask2 b S p cap l hS x1 x2 A B w hB hL h0 hl hg hA hB2
  · exact ask3 b S p cap l hS x1 x2 A B w hB hL h0 hl hg hA hB2
  · exact ask4 b S p cap l hS x1 x2 A B w hB hL h0 hl hg hA hB2
  · exact ask5 b S p cap l hS x1 x2 A B w hB hL h0 hl hg hA hB2
  · exact ask6 b S p cap l hS x1 x2 A B w hB hL h0 hl hg hA hB2
  · exact ask7 b S p cap l hS x1 x2 A B w hB hL h0 hl hg hA hB2
  · exact ask8 b S p cap l hS x1 x2 A B w hB hL h0 hl hg hA hB2
  · exact ask9 b S p cap l hS x1 x2 A B w hB hL h0 hl hg hA hB2
  · exact ask10 b S p cap l hS x1 x2 A B w hB hL h0 hl hg hA hB2
/-- what stands in BitmapNumbers: the map in block N, the pair behind it. -/
structure Nq (w : World) (N : Nat) (S : Nat → Bool) (p : Option Addr) (cap : Nat) (W : World) : Prop where
  bel : Below N w W
  bm : Bm W N S
  x : W.heap[N + 1]? = some (.cells #[.pointer (some ⟨N, 0, none⟩), .slice p (tl S).length cap] 32 (0, 0))
  lr : Lr W p (tl S)
  fo : Fo p (tl S).length cap
  far : ∀ g, p = some ⟨g, 0, none⟩ → g ≠ N ∧ g ≠ N + 1
theorem Nq.step {w : World} {N : Nat} {S : Nat → Bool} {p : Option Addr} {cap : Nat} {W W' : World} (h : Nq w N S p cap W) (hN : N ≤ w.heap.size) (k : Ko N W W') (hb : Bm W' N S) : Nq w N S p cap W' :=
  ⟨chain h.bel hN k, hb, (k.obj _ (Array.getElem?_eq_some_iff.1 h.x).1 (by omega)).trans h.x, h.lr.same (fun g hp hg => k.obj g hg (h.far g hp).1), h.fo, h.far⟩
theorem Nq.cells {w : World} {N : Nat} {S : Nat → Bool} {p : Option Addr} {cap : Nat} {W : World} (h : Nq w N S p cap W) : W.cell? ⟨N + 1, 0, none⟩ = some (.pointer (some ⟨N, 0, none⟩)) ∧ W.cell? ⟨N + 1, 1, none⟩ = some (.slice p (tl S).length cap) := ⟨row_cell h.x 0, row_cell h.x 1⟩
theorem ko_drew (N : Nat) (W : World) : Ko N W W.drew := Ko.of (below_drews rfl rfl rfl rfl)
theorem nq_put {w : World} {N : Nat} {S S' : Nat → Bool} {p p' : Option Addr} {cap cap' : Nat} {W0 W1 W2 : World} (h : Nq w N S p cap W0) (hN : N ≤ w.heap.size) (lr : Lr W1 p' (tl S')) (fo : Fo p' (tl S').length cap') (cs : p' = p ∨ ∃ g, p' = some ⟨g, 0, none⟩ ∧ W0.heap.size ≤ g ∧ g < W1.heap.size) (hb : Below W0.heap.size W0 W1) (hk : Ko N W1 W2) (bm : Bm W2 N S') :
    Hid (Nq w N S' p' cap' (W2.setCell ⟨N + 1, 1, none⟩ (.slice p' (tl S').length cap'))) ∧ W2.frozen? ⟨N + 1, 1, none⟩ = false ∧ W2.cell? ⟨N + 1, 1, none⟩ = some (.slice p (tl S).length cap) := by
  have l0 := (Array.getElem?_eq_some_iff.1 h.x).1
  have x1 := (hb.block _ l0).trans h.x
  have x2 := (hk.obj _ (Array.getElem?_eq_some_iff.1 x1).1 (by omega)).trans x1
  have far : ∀ g, p' = some ⟨g, 0, none⟩ → g ≠ N ∧ g ≠ N + 1 := by
    intro g hp
    rcases cs with rfl | ⟨g', e, h1, h2⟩
    · exact h.far g hp
    · rw [hp] at e; cases e; omega
  refine ⟨hid ⟨(chain (chainB h.bel hN hb) hN hk).setCell (p := ⟨N + 1, 1, none⟩) (by show N ≤ N + 1; omega) _, bm.same (heap_setCell_other _ _ _ _ (by show N ≠ N + 1; omega)), ?_, ?_, fo, far⟩, frozen_of_row W2 (N + 1) 1 _ _ x2, row_cell x2 1⟩
  · rw [Go.heap_setCell_same _ _ _ _ _ _ x2]; rfl
  · refine (lr.same (w' := W2) (fun g hp hg => hk.obj g hg (far g hp).1)).same (fun g hp hg => heap_setCell_other _ _ _ _ (far g hp).2)
theorem numbers (v : Value) (xs : List Int) (a b : Int) (w : World) (hI : Is w w.heap.size v xs) (hL : Laid w) (h0 : 0 < w.heap.size) (hl : xs.length < 9223372036854775807) (ha : a < 9223372036854775808) (hb : b < 9223372036854775808) :
    Calls Tryd.prog 4 #[v, .int .i64 a, .int .i64 b] w fun e w' => e = .returned (.bool true) ∧ Below w.heap.size w w' := by
  obtain ⟨pv, cap0, rfl⟩ := hI.form
  have hz := run_zero28
  have NQ0 : Nq w w.heap.size (fill []) none 0 ((w.alloc (.cells zrow 28)).alloc (.cells #[.pointer (some ⟨w.heap.size, 0, none⟩), .slice none 0 0] 32)) := by
    have hbe : Below w.heap.size w ((w.alloc (.cells zrow 28)).alloc (.cells #[.pointer (some ⟨w.heap.size, 0, none⟩), .slice none 0 0] 32)) := ((Below.refl _ w).alloc (Nat.le_refl _) _).alloc (by simp) _
    have e : tl (fill []) = [] := tl_emp
    refine ⟨hbe, (Bm.new w).same (Below.heap_alloc _ _ _ (by simp)), ?_, fun i hi => by rw [e] at hi; simp at hi, .inl ⟨rfl, by rw [e]; rfl, rfl⟩, fun g h => by cases h⟩
    rw [e]
    have := World.alloc_heap_new (w.alloc (.cells zrow 28)) (.cells #[.pointer (some ⟨w.heap.size, 0, none⟩), .slice none 0 0] 32)
    simpa using this
  have HN0 := hid NQ0
  obtain ⟨N, hN⟩ : ∃ N, w.heap.size = N := ⟨_, rfl⟩
  rw [hN] at HN0 hI h0 ⊢
  have HI := hid (fun (w' : World) (k : Below N w w') => hI.on k (Nat.le_refl _))
  have HL := hid (fun (w' : World) (k : Below N w w') => hL.on k h0)
  clear hL hI NQ0
  have hNs : N ≤ w.heap.size := by omega
  go_enter Tryd.func4, Tryd.ntmps4
  go_wp2_with fail
  go_loopw [8] (fun iv wr => ∃ k : Nat, k ≤ xs.length ∧ iv = .int .i64 k ∧ Hid (∃ p cap, Nq w N (fill (xs.take k)) p cap wr)) (fun iv _ => xs.length - (intOf iv).toNat)
  case atStart => exact ⟨0, Nat.zero_le _, rfl, hid ⟨_, _, HN0.out⟩⟩
  case round =>
    obtain ⟨k, hk, rfl, HX⟩ := hrel
    obtain ⟨p, cap, hq⟩ := HX.out
    have HQ := hid hq
    clear hq HX HN0
    by_cases hlt : k < xs.length
    · obtain ⟨g, o, rfl, hgl, hc⟩ := (HI.out _ HQ.out.bel).at k hlt
      obtain ⟨x, hx⟩ : ∃ x, xs[k] = x := ⟨_, rfl⟩
      rw [hx] at hc
      have i0 : (0 : Int) ≤ (k : Int) := by omega
      have i1 : (k : Int) < (xs.length : Int) := by omega
      have e : insI (fill (xs.take k)) x = fill (xs.take (k + 1)) := by
        rw [List.take_succ_eq_append_getElem hlt, fill_snoc, hx]
      have HE := hid e
      clear e hx
      obtain ⟨S, hS⟩ : ∃ S, fill (xs.take k) = S := ⟨_, rfl⟩
      rw [hS] at HQ HE
      clear hS
      obtain ⟨c0, c1⟩ := HQ.out.cells
      go_wp2_with fail
      rename_i K A0
      have HK0 := hid A0
      clear A0
      replace HQ := hid (HQ.out.step hNs (ko_drew N _) (HQ.out.bm.same rfl))
      obtain ⟨d0, d1⟩ := HQ.out.cells
      have hcd := (cell_same (q := o + k) (g := g) (w' := World.drew _) rfl).trans hc
      go_region_held3 (fun w' => w'.cell? ⟨N + 1, 0, none⟩ = some (.pointer (some ⟨N, 0, none⟩)) ∧ w'.cell? ⟨N + 1, 1, none⟩ = some (.slice p (tl S).length cap) ∧ w'.cell? ⟨g, o + k, none⟩ = some (.int .i64 x)) (go_keep) (first | (go_at_call 10; refine (with_all p cap S x _ HQ.out.lr HQ.out.fo).mono ?_; rintro e w9 ⟨p', cap', rfl, hlr, hfo, hcase, hb9⟩; have HQ9 := hid (HQ.out.step hNs (Ko.of hb9) (HQ.out.bm.on hb9)); have hc9 := (cell_same (q := o + k) (hb9.block g (cell_lt hcd))).trans hcd; obtain ⟨y0, y1⟩ := HQ9.out.cells; have HW := hid (And.intro hlr (And.intro hfo (And.intro hcase hb9))); clear hlr hfo hcase hb9))
      refine HK0.out _ _ ?_
      clear HK0 c0 c1 d0 d1
      go_wp2_with fail
      rename_i K2 A2
      have HK2 := hid A2
      clear A2
      have HQD := hid (HQ9.out.step hNs (ko_drew N _) (HQ9.out.bm.same rfl))
      obtain ⟨d0, d1⟩ := HQD.out.cells
      have hcd9 := (cell_same (q := o + k) (g := g) (w' := World.drew _) rfl).trans hc9
      go_region_held3 (fun w' => w'.cell? ⟨N + 1, 0, none⟩ = some (.pointer (some ⟨N, 0, none⟩)) ∧ w'.cell? ⟨g, o + k, none⟩ = some (.int .i64 x)) (go_keep) (first | (go_at_call 11; refine (set_any N S x _ HQD.out.bm).mono ?_; rintro e w10 ⟨rfl, hk10, hm10⟩; have e0 := (hk10.obj (N + 1) (Array.getElem?_eq_some_iff.1 HQD.out.x).1 (by omega)).trans HQD.out.x; have e00 := row_cell e0 0; simp only [List.getElem?_toArray, List.getElem?_cons_zero] at e00; have hc10 := (cell_same (q := o + k) (hk10.obj g (cell_lt hcd9) (by omega))).trans hcd9; obtain ⟨HF, f1, f2⟩ := nq_put HQ.out hNs HW.out.1 HW.out.2.1 HW.out.2.2.1 HW.out.2.2.2 ((ko_drew N _).trans hk10) hm10; rw [HE.out] at HF; clear hk10 hm10 e0))
      refine HK2.out _ _ ?_
      clear HK2
      rw [HE.out]
      go_wp2_with fail
      go_roundw
      case rel => exact ⟨k + 1, by omega, by go_num, hid ⟨_, _, HF.out⟩⟩
      case measure => simp [intOf]; omega
    · have e : xs.take k = xs := List.take_of_length_le (by omega)
      rw [e] at HQ
      clear e
      have i1 : ¬ ((k : Int) < (xs.length : Int)) := by omega
      obtain ⟨S, hS⟩ : ∃ S, fill xs = S := ⟨_, rfl⟩
      rw [hS] at HQ
      clear hS
      go_wp2_with fail
      go_loopw [11] (fun jv wr2 => ∃ j : Nat, 2 ≤ j ∧ j ≤ 11 ∧ jv = .int .i64 j ∧ Hid (Nq w N S p cap wr2)) (fun jv _ => 11 - (intOf jv).toNat)
      case atStart => exact ⟨2, by omega, by omega, rfl, HQ⟩
      case round =>
        obtain ⟨j, hj1, hj2, rfl, HR⟩ := hrel
        clear HQ
        obtain ⟨c0, c1⟩ := HR.out.cells
        by_cases hj : j ≤ 10
        · have j1 : (j : Int) ≤ 10 := by omega
          go_wp2_with (first | (go_at_call 17; refine (ask_all (j : Int) (by omega) N S p cap (tl S) (Tl.of S) 0 0 a b _ HR.out.bm (HL.out _ HR.out.bel) h0 HR.out.lr (fun g hp => (HR.out.far g hp).1) ha hb).mono ?_; rintro e w9 ⟨rfl, hk9, hm9⟩; have HR9 := hid (HR.out.step hNs hk9 hm9); clear hk9 hm9))
          go_roundw
          case rel => exact ⟨j + 1, by omega, by omega, by go_num, HR9⟩
          case measure => simp [intOf]; omega
        · have j1 : ¬ ((j : Int) ≤ 10) := by omega
          go_wp2_with (first | (go_at_call 18; refine (alike_any N S p cap (tl S) (Tl.of S) _ HR.out.bm (HL.out _ HR.out.bel) HR.out.lr).mono ?_; rintro e w9 ⟨rfl, hb9⟩; have HR9 := hid (chainB HR.out.bel hNs hb9); clear hb9))
          go_ret
          exact ⟨rfl, HR9.out⟩
end Go.Proofs.YtcbfgodknonefaaDoor
