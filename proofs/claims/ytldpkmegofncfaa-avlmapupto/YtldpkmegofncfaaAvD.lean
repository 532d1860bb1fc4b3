/-
  flat. Written by mkd.py.
-/
import Derived.Test.YtldpkmegofncfaaAvC
namespace Go.Proofs.Ytldpkmegofncfaa
open Go.RowKit Go.Deep
set_option linter.unusedVariables false
set_option linter.unusedSimpArgs false
theorem Tr.cells {w : World} {k v : Int} {l r : T} {b : Nat} (h : Tr w (.nd k v l r) (some b)) : ∃ pl pr, w.heap[b]? = some (.cells (nrow k v pl pr (T.nd k v l r).h (T.nd k v l r).n) 68 (0, 0)) ∧ Tr w l pl ∧ Tr w r pr ∧ w.cell? ⟨b, 0, none⟩ = some (.int .i64 k) ∧ w.cell? ⟨b, 1, none⟩ = some (.int .i64 v) ∧ w.cell? ⟨b, 2, none⟩ = some (.pointer (pa pl)) ∧ w.cell? ⟨b, 3, none⟩ = some (.pointer (pa pr)) := by
  obtain ⟨b', pl, pr, e, h1, h2, h3⟩ := h
  cases e
  exact ⟨pl, pr, h1, h2, h3, row_cell h1 0, row_cell h1 1, row_cell h1 2, row_cell h1 3⟩
theorem cell_on {w w' : World} {b j : Nat} {v : Value} (h : w.cell? ⟨b, j, none⟩ = some v) (hb : Below w.heap.size w w') (hl : b < w.heap.size) : w'.cell? ⟨b, j, none⟩ = some v := by
  rw [← h]; unfold World.cell?; simp only [hb.block b hl]
theorem tall_c {w : World} {t : T} {p : Option Nat} (h : Tr w t p) (z : Option Addr) (hz : pa p = z) (hh : Nat) (hhh : t.h = hh) : ∀ w', Below w.heap.size w w' → Calls Try.prog 47 #[.pointer z] w' fun e w2 => e = .returned (.int .i64 hh) ∧ w2 = w' := by
  subst hz hhh
  intro w' hb
  exact tall_any (h.on hb)

set_option maxHeartbeats 4000000 in
set_option maxRecDepth 100000 in
theorem flat_n {w : World} {k v : Int} {l r : T} {b : Nat} (h : Tr w (T.nd k v l r) (some b)) (hb : (T.nd k v l r).n < 2 ^ 60) (h1 : l.h < r.h + 2) (h2 : r.h < l.h + 2) :
    Calls Try.prog 52 #[pb (some b)] w fun e w' => ∃ b', e = .returned (pb (some b')) ∧ Tr w' (T.nd k v l r) (some b') ∧ Below w.heap.size w w' := by
  have HT := hid h
  have hlb := h.lt
  obtain ⟨pl, pr, -, hl, hr, -, -, c2, c3⟩ := h.cells
  have n1 := T.h_le_n l
  have n2 := T.h_le_n r
  have hb1 : l.n + r.n < 2 ^ 60 := by simp only [T.n] at hb ⊢; omega
  obtain ⟨zl, hzl⟩ : ∃ z, pa pl = z := ⟨_, rfl⟩
  obtain ⟨zr, hzr⟩ : ∃ z, pa pr = z := ⟨_, rfl⟩
  obtain ⟨lh, hlh⟩ : ∃ z, l.h = z := ⟨_, rfl⟩
  obtain ⟨rh, hrh⟩ : ∃ z, r.h = z := ⟨_, rfl⟩
  have CL := hid (tall_c hl zl hzl lh hlh)
  have CR := hid (tall_c hr zr hzr rh hrh)
  rw [hzl] at c2
  rw [hzr] at c3
  rw [hlh, hrh] at h1 h2
  rw [hlh] at n1
  rw [hrh] at n2
  have i1 : (lh : Int) < 1152921504606846976 := by omega
  have i2 : (rh : Int) < 1152921504606846976 := by omega
  have HC2 := hid c2
  have HC3 := hid c3
  have j1 : (lh : Int) < (rh : Int) + 2 := by omega
  have j2 : (rh : Int) < (lh : Int) + 2 := by omega
  clear hl hr hb hb1 n1 n2 h1 h2 hzl hzr hlh hrh c2 c3 h
  simp only [pb, pa]
  have w1 : IntKind.i64.wrap 1 = 1 := by decide
  have w0 : IntKind.i64.wrap 0 = 0 := by decide
  go_enter Try.func52, Try.ntmps52
  go_wp2_with fail
  go_loopw [0, 6] (fun nv iv wr => ∃ j : Int, 0 ≤ j ∧ j ≤ 2 ∧ nv = .pointer (some ⟨b, 0, none⟩) ∧ iv = .int .i64 j ∧ Hid (Below w.heap.size w wr)) (fun _ iv _ => 2 - (intOf iv).toNat)
  case atStart => exact ⟨0, by omega, by omega, rfl, rfl, Below.refl _ _⟩
  case round =>
    obtain ⟨j, hj0, hj, rfl, rfl, HB⟩ := hrel
    have x2 := cell_on HC2.out HB.out hlb
    have x3 := cell_on HC3.out HB.out hlb
    have x2d := cell_on HC2.out (bdrew HB.out) hlb
    have x3d := cell_on HC3.out (bdrew HB.out) hlb
    obtain rfl | rfl | rfl : j = 0 ∨ j = 1 ∨ j = 2 := by omega
    · skip
      go_wp2_with fail
      rename_i K A
      have HK := hid A
      clear A
      go_region_held3 (fun w' => w'.cell? ⟨b, 2, none⟩ = some (.pointer zl) ∧ w'.cell? ⟨b, 3, none⟩ = some (.pointer zr)) (go_keep) (fail)
      refine HK.out _ _ ?_
      clear HK
      have HB2 := hid (bdrew HB.out)
      go_wp2_with (first | (go_at_call 47; with_reducible refine (CL.out _ HB2.out).mono ?_; rintro e w9 ⟨rfl, rfl⟩) | (go_at_call 47; with_reducible refine (CR.out _ HB2.out).mono ?_; rintro e w9 ⟨rfl, rfl⟩))
      go_roundw
      case rel => exact ⟨1, by omega, by omega, rfl, rfl, HB2⟩
      case measure => simp [intOf]
    · skip
      go_wp2_with fail
      rename_i K A
      have HK := hid A
      clear A
      go_region_held3 (fun w' => w'.cell? ⟨b, 2, none⟩ = some (.pointer zl) ∧ w'.cell? ⟨b, 3, none⟩ = some (.pointer zr)) (go_keep) (fail)
      refine HK.out _ _ ?_
      clear HK
      have HB2 := hid (bdrew HB.out)
      go_wp2_with (first | (go_at_call 47; with_reducible refine (CL.out _ HB2.out).mono ?_; rintro e w9 ⟨rfl, rfl⟩) | (go_at_call 47; with_reducible refine (CR.out _ HB2.out).mono ?_; rintro e w9 ⟨rfl, rfl⟩))
      go_roundw
      case rel => exact ⟨2, by omega, by omega, rfl, rfl, HB2⟩
      case measure => simp [intOf]
    · skip
      go_wp2_with fail
      go_ret
      exact ⟨b, rfl, HT.out.on HB.out, HB.out⟩

set_option maxHeartbeats 4000000 in
set_option maxRecDepth 100000 in
theorem flat_0s {w : World} {k v a c : Int} {x y r : T} {b : Nat} (h : Tr w (T.nd k v (T.nd a c x y) r) (some b)) (hb : (T.nd k v (T.nd a c x y) r).n < 2 ^ 60) (h1 : r.h + 2 ≤ (T.nd a c x y).h) (h2 : ¬ x.h < y.h) :
    Calls Try.prog 52 #[pb (some b)] w fun e w' => ∃ b', e = .returned (pb (some b')) ∧ Tr w' (T.nd a c x (.nd k v y r)) (some b') ∧ Below w.heap.size w w' := by
  have HT := hid h
  have hlb := h.lt
  obtain ⟨pl, pr, -, hl, hr, -, -, c2, c3⟩ := h.cells
  have n1 := T.h_le_n (T.nd a c x y)
  have n2 := T.h_le_n r
  have hb1 : (T.nd a c x y).n + r.n < 2 ^ 60 := by simp only [T.n] at hb ⊢; omega
  obtain ⟨bl, hbl⟩ := hl.ofNd
  subst hbl
  have HH := hid hl
  have hlbl := hl.lt
  obtain ⟨px, py, -, hx, hy, -, -, d2, d3⟩ := hl.cells
  have n3 := T.h_le_n x
  have n4 := T.h_le_n y
  have hb2 : x.n + y.n < 2 ^ 60 := by simp only [T.n] at hb ⊢; omega
  obtain ⟨zx, hzx⟩ : ∃ z, pa px = z := ⟨_, rfl⟩
  obtain ⟨zy, hzy⟩ : ∃ z, pa py = z := ⟨_, rfl⟩
  obtain ⟨xh, hxh⟩ : ∃ z, x.h = z := ⟨_, rfl⟩
  obtain ⟨yh, hyh⟩ : ∃ z, y.h = z := ⟨_, rfl⟩
  have CX := hid (tall_c hx zx hzx xh hxh)
  have CY := hid (tall_c hy zy hzy yh hyh)
  rw [hzx] at d2
  rw [hzy] at d3
  rw [hxh, hyh] at h2
  rw [hxh] at n3
  rw [hyh] at n4
  have TN := hid (show ∀ w', Below w.heap.size w w' → Calls Try.prog 55 #[.pointer (some ⟨b, 0, none⟩), .int .i64 0] w' fun e w2 => ∃ b', e = .returned (.pointer (some ⟨b', 0, none⟩)) ∧ Tr w2 (T.nd a c x (.nd k v y r)) (some b') ∧ Below w'.heap.size w' w2 from fun w' hw => turned0 (p := some b) (HT.out.on hw) (by simp only [T.n] at hb ⊢; omega))
  have HLBL := hid hlbl
  clear hlbl
  obtain ⟨zl, hzl⟩ : ∃ z, pa (some bl) = z := ⟨_, rfl⟩
  obtain ⟨zr, hzr⟩ : ∃ z, pa pr = z := ⟨_, rfl⟩
  obtain ⟨lh, hlh⟩ : ∃ z, (T.nd a c x y).h = z := ⟨_, rfl⟩
  obtain ⟨rh, hrh⟩ : ∃ z, r.h = z := ⟨_, rfl⟩
  have CL := hid (tall_c hl zl hzl lh hlh)
  have CR := hid (tall_c hr zr hzr rh hrh)
  rw [hzl] at c2
  rw [hzr] at c3
  rw [hlh, hrh] at h1
  rw [hlh] at n1
  rw [hrh] at n2
  have i3 : (xh : Int) < 1152921504606846976 := by omega
  have i4 : (yh : Int) < 1152921504606846976 := by omega
  have i5 : decide ((xh : Int) < (yh : Int)) = false := by first | omega | (simp; omega)
  have i6 : decide ((xh : Nat) < (yh : Nat)) = false := by first | omega | (simp; omega)
  simp only [pa] at hzl
  subst hzl
  have i1 : (lh : Int) < 1152921504606846976 := by omega
  have i2 : (rh : Int) < 1152921504606846976 := by omega
  have HC2 := hid c2
  have HC3 := hid c3
  have j1 : decide ((lh : Int) < (rh : Int) + 2) = false := by simp; omega
  have jw : IntKind.i64.wrap ((rh : Int) + 2) = (rh : Int) + 2 := by simp [IntKind.wrap, IntKind.bits, IntKind.signed]; omega
  have HD2 := hid d2
  have HD3 := hid d3
  clear hl hr hx hy hzx hzy hxh hyh hb2 n3 n4 d2 d3 hb hb1 n1 n2 h1 h2 hzr hlh hrh c2 c3 h
  simp only [pb, pa]
  have w1 : IntKind.i64.wrap 1 = 1 := by decide
  have w0 : IntKind.i64.wrap 0 = 0 := by decide
  go_enter Try.func52, Try.ntmps52
  go_wp2_with fail
  go_loopw [0, 6] (fun nv iv wr => ∃ j : Int, 0 ≤ j ∧ j ≤ 0 ∧ nv = .pointer (some ⟨b, 0, none⟩) ∧ iv = .int .i64 j ∧ Hid (Below w.heap.size w wr)) (fun _ iv _ => 2 - (intOf iv).toNat)
  case atStart => exact ⟨0, by omega, by omega, rfl, rfl, Below.refl _ _⟩
  case round =>
    obtain ⟨j, hj0, hj, rfl, rfl, HB⟩ := hrel
    have x2 := cell_on HC2.out HB.out hlb
    have x3 := cell_on HC3.out HB.out hlb
    have x2d := cell_on HC2.out (bdrew HB.out) hlb
    have x3d := cell_on HC3.out (bdrew HB.out) hlb
    obtain rfl : j = 0 := by omega
    · skip
      go_wp2_with fail
      rename_i K A
      have HK := hid A
      clear A
      go_region_held3 (fun w' => w'.cell? ⟨b, 2, none⟩ = some (.pointer (some ⟨bl, 0, none⟩)) ∧ w'.cell? ⟨b, 3, none⟩ = some (.pointer zr)) (go_keep) (fail)
      refine HK.out _ _ ?_
      clear HK
      have HB2 := hid (bdrew HB.out)
      go_wp2_with (first | (go_at_call 47; with_reducible refine (CL.out _ HB2.out).mono ?_; rintro e w9 ⟨rfl, rfl⟩) | (go_at_call 47; with_reducible refine (CR.out _ HB2.out).mono ?_; rintro e w9 ⟨rfl, rfl⟩))
      rename_i K A
      have HK := hid A
      clear A
      have y2 := cell_on HD2.out (bdrew HB2.out) HLBL.out
      have y3 := cell_on HD3.out (bdrew HB2.out) HLBL.out
      have HB3 := hid (bdrew HB2.out)
      go_region_held3 (fun w' => w'.cell? ⟨bl, 2, none⟩ = some (.pointer zx) ∧ w'.cell? ⟨bl, 3, none⟩ = some (.pointer zy)) (go_keep) (first | (go_at_call 47; with_reducible refine (CX.out _ HB3.out).mono ?_; rintro e w9 ⟨rfl, rfl⟩) | (go_at_call 47; with_reducible refine (CY.out _ HB3.out).mono ?_; rintro e w9 ⟨rfl, rfl⟩))
      refine HK.out _ _ ?_
      clear HK
      go_wp2_with (first | (go_at_call 55; with_reducible refine (TN.out _ HB3.out).mono ?_; rintro e w8 ⟨b', rfl, ht8, hb8⟩; have HT8 := hid ht8; have HB8 := hid hb8; clear ht8 hb8; refine Hid.out ?_))
      refine hid ?_
      go_wp2_with fail
      go_ret
      exact ⟨b', rfl, HT8.out, btr HB3.out HB8.out⟩

set_option maxHeartbeats 4000000 in
set_option maxRecDepth 100000 in
theorem flat_0d {w : World} {k v a c : Int} {x y1 y2 r : T} {a2 e2 : Int} {b : Nat} (h : Tr w (T.nd k v (T.nd a c x (.nd a2 e2 y1 y2)) r) (some b)) (hb : (T.nd k v (T.nd a c x (.nd a2 e2 y1 y2)) r).n < 2 ^ 60) (h1 : r.h + 2 ≤ (T.nd a c x (.nd a2 e2 y1 y2)).h) (h2 : x.h < (T.nd a2 e2 y1 y2).h) :
    Calls Try.prog 52 #[pb (some b)] w fun e w' => ∃ b', e = .returned (pb (some b')) ∧ Tr w' (T.nd a2 e2 (.nd a c x y1) (.nd k v y2 r)) (some b') ∧ Below w.heap.size w w' := by
  have HT := hid h
  have hlb := h.lt
  obtain ⟨pl, pr, -, hl, hr, -, -, c2, c3⟩ := h.cells
  have n1 := T.h_le_n (T.nd a c x (.nd a2 e2 y1 y2))
  have n2 := T.h_le_n r
  have hb1 : (T.nd a c x (.nd a2 e2 y1 y2)).n + r.n < 2 ^ 60 := by simp only [T.n] at hb ⊢; omega
  obtain ⟨bl, hbl⟩ := hl.ofNd
  subst hbl
  have HH := hid hl
  have hlbl := hl.lt
  obtain ⟨px, py, -, hx, hy, -, -, d2, d3⟩ := hl.cells
  have n3 := T.h_le_n x
  have n4 := T.h_le_n (T.nd a2 e2 y1 y2)
  have hb2 : x.n + (T.nd a2 e2 y1 y2).n < 2 ^ 60 := by simp only [T.n] at hb ⊢; omega
  obtain ⟨zx, hzx⟩ : ∃ z, pa px = z := ⟨_, rfl⟩
  obtain ⟨zy, hzy⟩ : ∃ z, pa py = z := ⟨_, rfl⟩
  obtain ⟨xh, hxh⟩ : ∃ z, x.h = z := ⟨_, rfl⟩
  obtain ⟨yh, hyh⟩ : ∃ z, (T.nd a2 e2 y1 y2).h = z := ⟨_, rfl⟩
  have CX := hid (tall_c hx zx hzx xh hxh)
  have CY := hid (tall_c hy zy hzy yh hyh)
  rw [hzx] at d2
  rw [hzy] at d3
  rw [hxh, hyh] at h2
  rw [hxh] at n3
  rw [hyh] at n4
  have T1 := hid (show ∀ w', Below w.heap.size w w' → Calls Try.prog 55 #[.pointer (some ⟨bl, 0, none⟩), .int .i64 1] w' fun e w2 => ∃ b', e = .returned (.pointer (some ⟨b', 0, none⟩)) ∧ Tr w2 (T.nd a2 e2 (.nd a c x y1) y2) (some b') ∧ Below w'.heap.size w' w2 from fun w' hw => turned1 (p := some bl) (HH.out.on hw) (by simp only [T.n] at hb ⊢; omega))
  have T2 := hid (show ∀ w' b2, Below w.heap.size w w' → Tr w' (T.nd a2 e2 (.nd a c x y1) y2) (some b2) → Calls Try.prog 51 #[.pointer (some ⟨b, 0, none⟩), .int .i64 0, .pointer (some ⟨b2, 0, none⟩)] w' fun e w2 => ∃ b', e = .returned (.pointer (some ⟨b', 0, none⟩)) ∧ Tr w2 (T.nd k v (T.nd a2 e2 (.nd a c x y1) y2) r) (some b') ∧ Below w'.heap.size w' w2 from fun w' b2 hw ht => with0 (p := some b) (q := some b2) (HT.out.on hw) ht (by simp only [T.n] at hb ⊢; omega))
  have T3 := hid (show ∀ w' b2, Tr w' (T.nd k v (T.nd a2 e2 (.nd a c x y1) y2) r) (some b2) → Calls Try.prog 55 #[.pointer (some ⟨b2, 0, none⟩), .int .i64 0] w' fun e w2 => ∃ b', e = .returned (.pointer (some ⟨b', 0, none⟩)) ∧ Tr w2 (T.nd a2 e2 (.nd a c x y1) (.nd k v y2 r)) (some b') ∧ Below w'.heap.size w' w2 from fun w' b2 ht => turned0 (p := some b2) ht (by simp only [T.n] at hb ⊢; omega))
  have HLBL := hid hlbl
  clear hlbl
  obtain ⟨zl, hzl⟩ : ∃ z, pa (some bl) = z := ⟨_, rfl⟩
  obtain ⟨zr, hzr⟩ : ∃ z, pa pr = z := ⟨_, rfl⟩
  obtain ⟨lh, hlh⟩ : ∃ z, (T.nd a c x (.nd a2 e2 y1 y2)).h = z := ⟨_, rfl⟩
  obtain ⟨rh, hrh⟩ : ∃ z, r.h = z := ⟨_, rfl⟩
  have CL := hid (tall_c hl zl hzl lh hlh)
  have CR := hid (tall_c hr zr hzr rh hrh)
  rw [hzl] at c2
  rw [hzr] at c3
  rw [hlh, hrh] at h1
  rw [hlh] at n1
  rw [hrh] at n2
  have i3 : (xh : Int) < 1152921504606846976 := by omega
  have i4 : (yh : Int) < 1152921504606846976 := by omega
  have i5 : (xh : Int) < (yh : Int) := by first | omega | (simp; omega)
  have i6 : (xh : Nat) < (yh : Nat) := by first | omega | (simp; omega)
  simp only [pa] at hzl
  subst hzl
  have i1 : (lh : Int) < 1152921504606846976 := by omega
  have i2 : (rh : Int) < 1152921504606846976 := by omega
  have HC2 := hid c2
  have HC3 := hid c3
  have j1 : decide ((lh : Int) < (rh : Int) + 2) = false := by simp; omega
  have jw : IntKind.i64.wrap ((rh : Int) + 2) = (rh : Int) + 2 := by simp [IntKind.wrap, IntKind.bits, IntKind.signed]; omega
  have HD2 := hid d2
  have HD3 := hid d3
  clear hl hr hx hy hzx hzy hxh hyh hb2 n3 n4 d2 d3 hb hb1 n1 n2 h1 h2 hzr hlh hrh c2 c3 h
  simp only [pb, pa]
  have w1 : IntKind.i64.wrap 1 = 1 := by decide
  have w0 : IntKind.i64.wrap 0 = 0 := by decide
  go_enter Try.func52, Try.ntmps52
  go_wp2_with fail
  go_loopw [0, 6] (fun nv iv wr => ∃ j : Int, 0 ≤ j ∧ j ≤ 0 ∧ nv = .pointer (some ⟨b, 0, none⟩) ∧ iv = .int .i64 j ∧ Hid (Below w.heap.size w wr)) (fun _ iv _ => 2 - (intOf iv).toNat)
  case atStart => exact ⟨0, by omega, by omega, rfl, rfl, Below.refl _ _⟩
  case round =>
    obtain ⟨j, hj0, hj, rfl, rfl, HB⟩ := hrel
    have x2 := cell_on HC2.out HB.out hlb
    have x3 := cell_on HC3.out HB.out hlb
    have x2d := cell_on HC2.out (bdrew HB.out) hlb
    have x3d := cell_on HC3.out (bdrew HB.out) hlb
    obtain rfl : j = 0 := by omega
    · skip
      go_wp2_with fail
      rename_i K A
      have HK := hid A
      clear A
      go_region_held3 (fun w' => w'.cell? ⟨b, 2, none⟩ = some (.pointer (some ⟨bl, 0, none⟩)) ∧ w'.cell? ⟨b, 3, none⟩ = some (.pointer zr)) (go_keep) (fail)
      refine HK.out _ _ ?_
      clear HK
      have HB2 := hid (bdrew HB.out)
      go_wp2_with (first | (go_at_call 47; with_reducible refine (CL.out _ HB2.out).mono ?_; rintro e w9 ⟨rfl, rfl⟩) | (go_at_call 47; with_reducible refine (CR.out _ HB2.out).mono ?_; rintro e w9 ⟨rfl, rfl⟩))
      rename_i K A
      have HK := hid A
      clear A
      have y2 := cell_on HD2.out (bdrew HB2.out) HLBL.out
      have y3 := cell_on HD3.out (bdrew HB2.out) HLBL.out
      have HB3 := hid (bdrew HB2.out)
      go_region_held3 (fun w' => w'.cell? ⟨bl, 2, none⟩ = some (.pointer zx) ∧ w'.cell? ⟨bl, 3, none⟩ = some (.pointer zy)) (go_keep) (first | (go_at_call 47; with_reducible refine (CX.out _ HB3.out).mono ?_; rintro e w9 ⟨rfl, rfl⟩) | (go_at_call 47; with_reducible refine (CY.out _ HB3.out).mono ?_; rintro e w9 ⟨rfl, rfl⟩))
      refine HK.out _ _ ?_
      clear HK
      go_wp2_with (first | (go_at_call 55; with_reducible refine (T1.out _ HB3.out).mono ?_; rintro e w8 ⟨b', rfl, ht8, hb8⟩; have HT8 := hid ht8; have HB8 := hid (btr HB3.out hb8); clear ht8 hb8; refine Hid.out ?_))
      refine hid ?_
      go_wp2_with (first | (go_at_call 51; with_reducible refine (T2.out _ _ HB8.out HT8.out).mono ?_; rintro e w7 ⟨b7, rfl, ht7, hb7⟩; have HT7 := hid ht7; have HB7 := hid (btr HB8.out hb7); clear ht7 hb7; refine Hid.out ?_))
      refine hid ?_
      go_wp2_with (first | (go_at_call 55; with_reducible refine (T3.out _ _ HT7.out).mono ?_; rintro e w6 ⟨b6, rfl, ht6, hb6⟩; have HT6 := hid ht6; have HB6 := hid (btr HB7.out hb6); clear ht6 hb6; refine Hid.out ?_))
      refine hid ?_
      go_wp2_with fail
      go_ret
      exact ⟨b6, rfl, HT6.out, HB6.out⟩

set_option maxHeartbeats 4000000 in
set_option maxRecDepth 100000 in
theorem flat_1s {w : World} {k v a c : Int} {l x y : T} {b : Nat} (h : Tr w (T.nd k v l (T.nd a c x y)) (some b)) (hb : (T.nd k v l (T.nd a c x y)).n < 2 ^ 60) (h0 : l.h < (T.nd a c x y).h + 2) (h1 : l.h + 2 ≤ (T.nd a c x y).h) (h2 : ¬ y.h < x.h) :
    Calls Try.prog 52 #[pb (some b)] w fun e w' => ∃ b', e = .returned (pb (some b')) ∧ Tr w' (T.nd a c (.nd k v l x) y) (some b') ∧ Below w.heap.size w w' := by
  have HT := hid h
  have hlb := h.lt
  obtain ⟨pl, pr, -, hl, hr, -, -, c2, c3⟩ := h.cells
  have n1 := T.h_le_n l
  have n2 := T.h_le_n (T.nd a c x y)
  have hb1 : l.n + (T.nd a c x y).n < 2 ^ 60 := by simp only [T.n] at hb ⊢; omega
  obtain ⟨bl, hbl⟩ := hr.ofNd
  subst hbl
  have HH := hid hr
  have hlbl := hr.lt
  obtain ⟨px, py, -, hx, hy, -, -, d2, d3⟩ := hr.cells
  have n3 := T.h_le_n x
  have n4 := T.h_le_n y
  have hb2 : x.n + y.n < 2 ^ 60 := by simp only [T.n] at hb ⊢; omega
  obtain ⟨zx, hzx⟩ : ∃ z, pa px = z := ⟨_, rfl⟩
  obtain ⟨zy, hzy⟩ : ∃ z, pa py = z := ⟨_, rfl⟩
  obtain ⟨xh, hxh⟩ : ∃ z, x.h = z := ⟨_, rfl⟩
  obtain ⟨yh, hyh⟩ : ∃ z, y.h = z := ⟨_, rfl⟩
  have CX := hid (tall_c hx zx hzx xh hxh)
  have CY := hid (tall_c hy zy hzy yh hyh)
  rw [hzx] at d2
  rw [hzy] at d3
  rw [hxh, hyh] at h2
  rw [hxh] at n3
  rw [hyh] at n4
  have TN := hid (show ∀ w', Below w.heap.size w w' → Calls Try.prog 55 #[.pointer (some ⟨b, 0, none⟩), .int .i64 1] w' fun e w2 => ∃ b', e = .returned (.pointer (some ⟨b', 0, none⟩)) ∧ Tr w2 (T.nd a c (.nd k v l x) y) (some b') ∧ Below w'.heap.size w' w2 from fun w' hw => turned1 (p := some b) (HT.out.on hw) (by simp only [T.n] at hb ⊢; omega))
  have HLBL := hid hlbl
  clear hlbl
  obtain ⟨zl, hzl⟩ : ∃ z, pa pl = z := ⟨_, rfl⟩
  obtain ⟨zr, hzr⟩ : ∃ z, pa (some bl) = z := ⟨_, rfl⟩
  obtain ⟨lh, hlh⟩ : ∃ z, l.h = z := ⟨_, rfl⟩
  obtain ⟨rh, hrh⟩ : ∃ z, (T.nd a c x y).h = z := ⟨_, rfl⟩
  have CL := hid (tall_c hl zl hzl lh hlh)
  have CR := hid (tall_c hr zr hzr rh hrh)
  rw [hzl] at c2
  rw [hzr] at c3
  rw [hlh, hrh] at h1 h0
  rw [hlh] at n1
  rw [hrh] at n2
  have i3 : (xh : Int) < 1152921504606846976 := by omega
  have i4 : (yh : Int) < 1152921504606846976 := by omega
  have i5 : decide ((yh : Int) < (xh : Int)) = false := by first | omega | (simp; omega)
  have i6 : decide ((yh : Nat) < (xh : Nat)) = false := by first | omega | (simp; omega)
  simp only [pa] at hzr
  subst hzr
  have i1 : (lh : Int) < 1152921504606846976 := by omega
  have i2 : (rh : Int) < 1152921504606846976 := by omega
  have HC2 := hid c2
  have HC3 := hid c3
  have j1 : (lh : Int) < (rh : Int) + 2 := by omega
  have j2 : decide ((rh : Int) < (lh : Int) + 2) = false := by simp; omega
  have jw : IntKind.i64.wrap ((lh : Int) + 2) = (lh : Int) + 2 := by simp [IntKind.wrap, IntKind.bits, IntKind.signed]; omega
  have HD2 := hid d2
  have HD3 := hid d3
  clear hl hr hx hy hzx hzy hxh hyh hb2 n3 n4 d2 d3 hb hb1 n1 n2 h1 h2 h0 hzl hlh hrh c2 c3 h
  simp only [pb, pa]
  have w1 : IntKind.i64.wrap 1 = 1 := by decide
  have w0 : IntKind.i64.wrap 0 = 0 := by decide
  go_enter Try.func52, Try.ntmps52
  go_wp2_with fail
  go_loopw [0, 6] (fun nv iv wr => ∃ j : Int, 0 ≤ j ∧ j ≤ 1 ∧ nv = .pointer (some ⟨b, 0, none⟩) ∧ iv = .int .i64 j ∧ Hid (Below w.heap.size w wr)) (fun _ iv _ => 2 - (intOf iv).toNat)
  case atStart => exact ⟨0, by omega, by omega, rfl, rfl, Below.refl _ _⟩
  case round =>
    obtain ⟨j, hj0, hj, rfl, rfl, HB⟩ := hrel
    have x2 := cell_on HC2.out HB.out hlb
    have x3 := cell_on HC3.out HB.out hlb
    have x2d := cell_on HC2.out (bdrew HB.out) hlb
    have x3d := cell_on HC3.out (bdrew HB.out) hlb
    obtain rfl | rfl : j = 0 ∨ j = 1 := by omega
    · skip
      go_wp2_with fail
      rename_i K A
      have HK := hid A
      clear A
      go_region_held3 (fun w' => w'.cell? ⟨b, 2, none⟩ = some (.pointer zl) ∧ w'.cell? ⟨b, 3, none⟩ = some (.pointer (some ⟨bl, 0, none⟩))) (go_keep) (fail)
      refine HK.out _ _ ?_
      clear HK
      have HB2 := hid (bdrew HB.out)
      go_wp2_with (first | (go_at_call 47; with_reducible refine (CL.out _ HB2.out).mono ?_; rintro e w9 ⟨rfl, rfl⟩) | (go_at_call 47; with_reducible refine (CR.out _ HB2.out).mono ?_; rintro e w9 ⟨rfl, rfl⟩))
      go_roundw
      case rel => exact ⟨1, by omega, by omega, rfl, rfl, HB2⟩
      case measure => simp [intOf]
    · skip
      go_wp2_with fail
      rename_i K A
      have HK := hid A
      clear A
      go_region_held3 (fun w' => w'.cell? ⟨b, 2, none⟩ = some (.pointer zl) ∧ w'.cell? ⟨b, 3, none⟩ = some (.pointer (some ⟨bl, 0, none⟩))) (go_keep) (fail)
      refine HK.out _ _ ?_
      clear HK
      have HB2 := hid (bdrew HB.out)
      go_wp2_with (first | (go_at_call 47; with_reducible refine (CL.out _ HB2.out).mono ?_; rintro e w9 ⟨rfl, rfl⟩) | (go_at_call 47; with_reducible refine (CR.out _ HB2.out).mono ?_; rintro e w9 ⟨rfl, rfl⟩))
      rename_i K A
      have HK := hid A
      clear A
      have y2 := cell_on HD2.out (bdrew HB2.out) HLBL.out
      have y3 := cell_on HD3.out (bdrew HB2.out) HLBL.out
      have HB3 := hid (bdrew HB2.out)
      go_region_held3 (fun w' => w'.cell? ⟨bl, 2, none⟩ = some (.pointer zx) ∧ w'.cell? ⟨bl, 3, none⟩ = some (.pointer zy)) (go_keep) (first | (go_at_call 47; with_reducible refine (CX.out _ HB3.out).mono ?_; rintro e w9 ⟨rfl, rfl⟩) | (go_at_call 47; with_reducible refine (CY.out _ HB3.out).mono ?_; rintro e w9 ⟨rfl, rfl⟩))
      refine HK.out _ _ ?_
      clear HK
      go_wp2_with (first | (go_at_call 55; with_reducible refine (TN.out _ HB3.out).mono ?_; rintro e w8 ⟨b', rfl, ht8, hb8⟩; have HT8 := hid ht8; have HB8 := hid hb8; clear ht8 hb8; refine Hid.out ?_))
      refine hid ?_
      go_wp2_with fail
      go_ret
      exact ⟨b', rfl, HT8.out, btr HB3.out HB8.out⟩

set_option maxHeartbeats 4000000 in
set_option maxRecDepth 100000 in
theorem flat_1d {w : World} {k v a c : Int} {l x1 x2 y : T} {a2 e2 : Int} {b : Nat} (h : Tr w (T.nd k v l (T.nd a c (.nd a2 e2 x1 x2) y)) (some b)) (hb : (T.nd k v l (T.nd a c (.nd a2 e2 x1 x2) y)).n < 2 ^ 60) (h0 : l.h < (T.nd a c (.nd a2 e2 x1 x2) y).h + 2) (h1 : l.h + 2 ≤ (T.nd a c (.nd a2 e2 x1 x2) y).h) (h2 : y.h < (T.nd a2 e2 x1 x2).h) :
    Calls Try.prog 52 #[pb (some b)] w fun e w' => ∃ b', e = .returned (pb (some b')) ∧ Tr w' (T.nd a2 e2 (.nd k v l x1) (.nd a c x2 y)) (some b') ∧ Below w.heap.size w w' := by
  have HT := hid h
  have hlb := h.lt
  obtain ⟨pl, pr, -, hl, hr, -, -, c2, c3⟩ := h.cells
  have n1 := T.h_le_n l
  have n2 := T.h_le_n (T.nd a c (.nd a2 e2 x1 x2) y)
  have hb1 : l.n + (T.nd a c (.nd a2 e2 x1 x2) y).n < 2 ^ 60 := by simp only [T.n] at hb ⊢; omega
  obtain ⟨bl, hbl⟩ := hr.ofNd
  subst hbl
  have HH := hid hr
  have hlbl := hr.lt
  obtain ⟨px, py, -, hx, hy, -, -, d2, d3⟩ := hr.cells
  have n3 := T.h_le_n (T.nd a2 e2 x1 x2)
  have n4 := T.h_le_n y
  have hb2 : (T.nd a2 e2 x1 x2).n + y.n < 2 ^ 60 := by simp only [T.n] at hb ⊢; omega
  obtain ⟨zx, hzx⟩ : ∃ z, pa px = z := ⟨_, rfl⟩
  obtain ⟨zy, hzy⟩ : ∃ z, pa py = z := ⟨_, rfl⟩
  obtain ⟨xh, hxh⟩ : ∃ z, (T.nd a2 e2 x1 x2).h = z := ⟨_, rfl⟩
  obtain ⟨yh, hyh⟩ : ∃ z, y.h = z := ⟨_, rfl⟩
  have CX := hid (tall_c hx zx hzx xh hxh)
  have CY := hid (tall_c hy zy hzy yh hyh)
  rw [hzx] at d2
  rw [hzy] at d3
  rw [hxh, hyh] at h2
  rw [hxh] at n3
  rw [hyh] at n4
  have T1 := hid (show ∀ w', Below w.heap.size w w' → Calls Try.prog 55 #[.pointer (some ⟨bl, 0, none⟩), .int .i64 0] w' fun e w2 => ∃ b', e = .returned (.pointer (some ⟨b', 0, none⟩)) ∧ Tr w2 (T.nd a2 e2 x1 (.nd a c x2 y)) (some b') ∧ Below w'.heap.size w' w2 from fun w' hw => turned0 (p := some bl) (HH.out.on hw) (by simp only [T.n] at hb ⊢; omega))
  have T2 := hid (show ∀ w' b2, Below w.heap.size w w' → Tr w' (T.nd a2 e2 x1 (.nd a c x2 y)) (some b2) → Calls Try.prog 51 #[.pointer (some ⟨b, 0, none⟩), .int .i64 1, .pointer (some ⟨b2, 0, none⟩)] w' fun e w2 => ∃ b', e = .returned (.pointer (some ⟨b', 0, none⟩)) ∧ Tr w2 (T.nd k v l (T.nd a2 e2 x1 (.nd a c x2 y))) (some b') ∧ Below w'.heap.size w' w2 from fun w' b2 hw ht => with1 (p := some b) (q := some b2) (HT.out.on hw) ht (by simp only [T.n] at hb ⊢; omega))
  have T3 := hid (show ∀ w' b2, Tr w' (T.nd k v l (T.nd a2 e2 x1 (.nd a c x2 y))) (some b2) → Calls Try.prog 55 #[.pointer (some ⟨b2, 0, none⟩), .int .i64 1] w' fun e w2 => ∃ b', e = .returned (.pointer (some ⟨b', 0, none⟩)) ∧ Tr w2 (T.nd a2 e2 (.nd k v l x1) (.nd a c x2 y)) (some b') ∧ Below w'.heap.size w' w2 from fun w' b2 ht => turned1 (p := some b2) ht (by simp only [T.n] at hb ⊢; omega))
  have HLBL := hid hlbl
  clear hlbl
  obtain ⟨zl, hzl⟩ : ∃ z, pa pl = z := ⟨_, rfl⟩
  obtain ⟨zr, hzr⟩ : ∃ z, pa (some bl) = z := ⟨_, rfl⟩
  obtain ⟨lh, hlh⟩ : ∃ z, l.h = z := ⟨_, rfl⟩
  obtain ⟨rh, hrh⟩ : ∃ z, (T.nd a c (.nd a2 e2 x1 x2) y).h = z := ⟨_, rfl⟩
  have CL := hid (tall_c hl zl hzl lh hlh)
  have CR := hid (tall_c hr zr hzr rh hrh)
  rw [hzl] at c2
  rw [hzr] at c3
  rw [hlh, hrh] at h1 h0
  rw [hlh] at n1
  rw [hrh] at n2
  have i3 : (xh : Int) < 1152921504606846976 := by omega
  have i4 : (yh : Int) < 1152921504606846976 := by omega
  have i5 : (yh : Int) < (xh : Int) := by first | omega | (simp; omega)
  have i6 : (yh : Nat) < (xh : Nat) := by first | omega | (simp; omega)
  simp only [pa] at hzr
  subst hzr
  have i1 : (lh : Int) < 1152921504606846976 := by omega
  have i2 : (rh : Int) < 1152921504606846976 := by omega
  have HC2 := hid c2
  have HC3 := hid c3
  have j1 : (lh : Int) < (rh : Int) + 2 := by omega
  have j2 : decide ((rh : Int) < (lh : Int) + 2) = false := by simp; omega
  have jw : IntKind.i64.wrap ((lh : Int) + 2) = (lh : Int) + 2 := by simp [IntKind.wrap, IntKind.bits, IntKind.signed]; omega
  have HD2 := hid d2
  have HD3 := hid d3
  clear hl hr hx hy hzx hzy hxh hyh hb2 n3 n4 d2 d3 hb hb1 n1 n2 h1 h2 h0 hzl hlh hrh c2 c3 h
  simp only [pb, pa]
  have w1 : IntKind.i64.wrap 1 = 1 := by decide
  have w0 : IntKind.i64.wrap 0 = 0 := by decide
  go_enter Try.func52, Try.ntmps52
  go_wp2_with fail
  go_loopw [0, 6] (fun nv iv wr => ∃ j : Int, 0 ≤ j ∧ j ≤ 1 ∧ nv = .pointer (some ⟨b, 0, none⟩) ∧ iv = .int .i64 j ∧ Hid (Below w.heap.size w wr)) (fun _ iv _ => 2 - (intOf iv).toNat)
  case atStart => exact ⟨0, by omega, by omega, rfl, rfl, Below.refl _ _⟩
  case round =>
    obtain ⟨j, hj0, hj, rfl, rfl, HB⟩ := hrel
    have x2 := cell_on HC2.out HB.out hlb
    have x3 := cell_on HC3.out HB.out hlb
    have x2d := cell_on HC2.out (bdrew HB.out) hlb
    have x3d := cell_on HC3.out (bdrew HB.out) hlb
    obtain rfl | rfl : j = 0 ∨ j = 1 := by omega
    · skip
      go_wp2_with fail
      rename_i K A
      have HK := hid A
      clear A
      go_region_held3 (fun w' => w'.cell? ⟨b, 2, none⟩ = some (.pointer zl) ∧ w'.cell? ⟨b, 3, none⟩ = some (.pointer (some ⟨bl, 0, none⟩))) (go_keep) (fail)
      refine HK.out _ _ ?_
      clear HK
      have HB2 := hid (bdrew HB.out)
      go_wp2_with (first | (go_at_call 47; with_reducible refine (CL.out _ HB2.out).mono ?_; rintro e w9 ⟨rfl, rfl⟩) | (go_at_call 47; with_reducible refine (CR.out _ HB2.out).mono ?_; rintro e w9 ⟨rfl, rfl⟩))
      go_roundw
      case rel => exact ⟨1, by omega, by omega, rfl, rfl, HB2⟩
      case measure => simp [intOf]
    · skip
      go_wp2_with fail
      rename_i K A
      have HK := hid A
      clear A
      go_region_held3 (fun w' => w'.cell? ⟨b, 2, none⟩ = some (.pointer zl) ∧ w'.cell? ⟨b, 3, none⟩ = some (.pointer (some ⟨bl, 0, none⟩))) (go_keep) (fail)
      refine HK.out _ _ ?_
      clear HK
      have HB2 := hid (bdrew HB.out)
      go_wp2_with (first | (go_at_call 47; with_reducible refine (CL.out _ HB2.out).mono ?_; rintro e w9 ⟨rfl, rfl⟩) | (go_at_call 47; with_reducible refine (CR.out _ HB2.out).mono ?_; rintro e w9 ⟨rfl, rfl⟩))
      rename_i K A
      have HK := hid A
      clear A
      have y2 := cell_on HD2.out (bdrew HB2.out) HLBL.out
      have y3 := cell_on HD3.out (bdrew HB2.out) HLBL.out
      have HB3 := hid (bdrew HB2.out)
      go_region_held3 (fun w' => w'.cell? ⟨bl, 2, none⟩ = some (.pointer zx) ∧ w'.cell? ⟨bl, 3, none⟩ = some (.pointer zy)) (go_keep) (first | (go_at_call 47; with_reducible refine (CX.out _ HB3.out).mono ?_; rintro e w9 ⟨rfl, rfl⟩) | (go_at_call 47; with_reducible refine (CY.out _ HB3.out).mono ?_; rintro e w9 ⟨rfl, rfl⟩))
      refine HK.out _ _ ?_
      clear HK
      go_wp2_with (first | (go_at_call 55; with_reducible refine (T1.out _ HB3.out).mono ?_; rintro e w8 ⟨b', rfl, ht8, hb8⟩; have HT8 := hid ht8; have HB8 := hid (btr HB3.out hb8); clear ht8 hb8; refine Hid.out ?_))
      refine hid ?_
      go_wp2_with (first | (go_at_call 51; with_reducible refine (T2.out _ _ HB8.out HT8.out).mono ?_; rintro e w7 ⟨b7, rfl, ht7, hb7⟩; have HT7 := hid ht7; have HB7 := hid (btr HB8.out hb7); clear ht7 hb7; refine Hid.out ?_))
      refine hid ?_
      go_wp2_with (first | (go_at_call 55; with_reducible refine (T3.out _ _ HT7.out).mono ?_; rintro e w6 ⟨b6, rfl, ht6, hb6⟩; have HT6 := hid ht6; have HB6 := hid (btr HB7.out hb6); clear ht6 hb6; refine Hid.out ?_))
      refine hid ?_
      go_wp2_with fail
      go_ret
      exact ⟨b6, rfl, HT6.out, HB6.out⟩

/-- made flat again. -/
theorem flat_any {w : World} {k v : Int} {l r : T} {b : Nat} (h : Tr w (T.nd k v l r) (some b)) (hb : (T.nd k v l r).n < 2 ^ 60) :
    Calls Try.prog 52 #[pb (some b)] w fun e w' => ∃ b', e = .returned (pb (some b')) ∧ Tr w' (T.nd k v l r).bal (some b') ∧ Below w.heap.size w w' := by
  rw [T.bal_nd]
  by_cases c1 : r.h + 2 ≤ l.h
  · rw [if_pos c1]
    cases l with
    | nil => simp [T.h] at c1
    | nd a c x y =>
      by_cases c2 : x.h < y.h
      · rw [if_pos (show (T.nd a c x y).left.h < (T.nd a c x y).right.h from c2)]
        cases y with
        | nil => simp [T.h] at c2
        | nd a2 e2 y1 y2 => exact flat_0d h hb c1 c2
      · rw [if_neg (show ¬ (T.nd a c x y).left.h < (T.nd a c x y).right.h from c2)]
        exact flat_0s h hb c1 c2
  · rw [if_neg c1]
    by_cases c3 : l.h + 2 ≤ r.h
    · rw [if_pos c3]
      cases r with
      | nil => simp [T.h] at c3
      | nd a c x y =>
        by_cases c2 : y.h < x.h
        · rw [if_pos (show (T.nd a c x y).right.h < (T.nd a c x y).left.h from c2)]
          cases x with
          | nil => simp [T.h] at c2
          | nd a2 e2 y1 y2 => exact flat_1d h hb (by omega) c3 c2
        · rw [if_neg (show ¬ (T.nd a c x y).right.h < (T.nd a c x y).left.h from c2)]
          exact flat_1s h hb (by omega) c3 c2
    · rw [if_neg c3]
      exact flat_n h hb (by omega) (by omega)
end Go.Proofs.Ytldpkmegofncfaa
