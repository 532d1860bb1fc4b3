/-
  ask: a question of a number or two. Written by mkn.py.
-/
import Derived.Test.YtcbfgodknonefaaDoorBnL
import Derived.Test.YtcbfgodknonefaaDoorBmQA
namespace Go.Proofs.YtcbfgodknonefaaDoor
open Go.RowKit Go.Deep Bt
set_option linter.unusedVariables false
set_option maxRecDepth 100000
set_option maxHeartbeats 2000000

structure Aq (b : Nat) (S : Nat → Bool) (p : Option Addr) (cap : Nat) (l : List Int) (k x1 x2 A B : Int) (w W : World) : Prop where
  bel : Below w.heap.size w W
  x : W.heap[w.heap.size]? = some (.cells #[.pointer (some ⟨b, 0, none⟩), .slice p l.length cap] 32 (0, 0))
  o : W.heap[w.heap.size + 1]? = some (.cells #[.int .i64 k, .int .i64 x1, .int .i64 x2, .int .i64 A, .int .i64 B] 35 (0, 0))
  bm : Bm W b S
  la : Laid W
  lr : Lr W p l
theorem Aq.step {b : Nat} {S : Nat → Bool} {p : Option Addr} {cap : Nat} {l : List Int} {k x1 x2 A B : Int} {w W W' : World} (h : Aq b S p cap l k x1 x2 A B w W) (hb : Below W.heap.size W W') : Aq b S p cap l k x1 x2 A B w W' :=
  have lt : ∀ {j : Nat} {o : Obj}, W.heap[j]? = some o → j < W.heap.size := fun h => (Array.getElem?_eq_some_iff.1 h).1
  ⟨h.bel.trans ⟨hb.os, hb.tape, hb.output, hb.size, fun j hj => hb.block j (Nat.lt_of_lt_of_le hj h.bel.size)⟩, (hb.block _ (lt h.x)).trans h.x, (hb.block _ (lt h.o)).trans h.o, h.bm.on hb, h.la.same (hb.block 0 (by have := h.bm.lt; omega)), h.lr.same (fun g _ hg => hb.block g hg)⟩
theorem Aq.drew {b : Nat} {S : Nat → Bool} {p : Option Addr} {cap : Nat} {l : List Int} {k x1 x2 A B : Int} {w W : World} (h : Aq b S p cap l k x1 x2 A B w W) : Aq b S p cap l k x1 x2 A B w W.drew := h.step (below_drews rfl rfl rfl rfl)
theorem Aq.first (b : Nat) (S : Nat → Bool) (p : Option Addr) (cap : Nat) (l : List Int) (k x1 x2 A B : Int) (w : World) (hB : Bm w b S) (hL : Laid w) (hl : Lr w p l) :
    Aq b S p cap l k x1 x2 A B w ((w.alloc (.cells #[.pointer (some ⟨b, 0, none⟩), .slice p l.length cap] 32)).alloc (.cells #[.int .i64 k, .int .i64 x1, .int .i64 x2, .int .i64 A, .int .i64 B] 35)) := by
  have hb : Below w.heap.size w ((w.alloc (.cells #[.pointer (some ⟨b, 0, none⟩), .slice p l.length cap] 32)).alloc (.cells #[.int .i64 k, .int .i64 x1, .int .i64 x2, .int .i64 A, .int .i64 B] 35)) := ((Below.refl _ w).alloc (Nat.le_refl _) _).alloc (by simp) _
  refine ⟨hb, ?_, ?_, hB.on hb, hL.same (hb.block 0 (by have := hB.lt; omega)), hl.same (fun g _ hg => hb.block g hg)⟩
  · rw [Below.heap_alloc _ _ _ (by simp)]; exact World.alloc_heap_new _ _
  · have := World.alloc_heap_new (w.alloc (.cells #[.pointer (some ⟨b, 0, none⟩), .slice p l.length cap] 32)) (.cells #[.int .i64 k, .int .i64 x1, .int .i64 x2, .int .i64 A, .int .i64 B] 35)
    simpa using this
theorem Aq.cells {b : Nat} {S : Nat → Bool} {p : Option Addr} {cap : Nat} {l : List Int} {k x1 x2 A B : Int} {w W : World} (h : Aq b S p cap l k x1 x2 A B w W) :
    W.cell? ⟨w.heap.size, 0, none⟩ = some (.pointer (some ⟨b, 0, none⟩)) ∧ W.cell? ⟨w.heap.size, 1, none⟩ = some (.slice p l.length cap) ∧ W.cell? ⟨w.heap.size + 1, 0, none⟩ = some (.int .i64 k) ∧ W.cell? ⟨w.heap.size + 1, 1, none⟩ = some (.int .i64 x1) ∧ W.cell? ⟨w.heap.size + 1, 2, none⟩ = some (.int .i64 x2) ∧ W.cell? ⟨w.heap.size + 1, 3, none⟩ = some (.int .i64 A) ∧ W.cell? ⟨w.heap.size + 1, 4, none⟩ = some (.int .i64 B) :=
  ⟨row_cell h.x 0, row_cell h.x 1, row_cell h.o 0, row_cell h.o 1, row_cell h.o 2, row_cell h.o 3, row_cell h.o 4⟩
theorem ats_ex (S : Nat → Bool) (z : Int) : ∃ r, Ats S z r := by
  by_cases h : z < 0 ∨ (len S : Int) ≤ z
  · exact ⟨none, h⟩
  · have h' : z.toNat < (tl S).length := by rw [tl_len]; omega
    obtain ⟨u, _, h1, h2, h3⟩ := tl_get S z.toNat h'
    exact ⟨some u, h2, h1, by omega⟩
theorem ask3 (b : Nat) (S : Nat → Bool) (p : Option Addr) (cap : Nat) (l : List Int) (hS : Tl S l) (x1 x2 A B : Int) (w : World) (hB : Bm w b S) (hL : Laid w) (h0 : 0 < b) (hl : Lr w p l) (hg : ∀ g, p = some ⟨g, 0, none⟩ → g ≠ b) (hA : A < 9223372036854775808) (hB2 : B < 9223372036854775808) :
    Calls Tryd.prog 17 #[.agg #[.pointer (some ⟨b, 0, none⟩), .slice p l.length cap], .agg #[.int .i64 3, .int .i64 x1, .int .i64 x2, .int .i64 A, .int .i64 B]] w fun e w' => e = .returned (.bool true) ∧ Ko b w w' ∧ Bm w' b S := by
  have HS := hid hS
  have HA := hid (Aq.first b S p cap l 3 x1 x2 A B w hB hL hl)
  have HG := hid hg
  clear hS hB hL hl hg
  obtain ⟨z0, z1, z2, z3, z4, z5, z6⟩ := HA.out.cells
  obtain ⟨r, hr⟩ := abv_ex S A
  have HRR := hid hr
  clear hr
  go_enter Tryd.func17, Tryd.ntmps17
  go_wp2_with (first | (go_at_call 24; refine (above_at b S A r HRR.out _ HA.out.bm HA.out.la).mono ?_; rintro e w9 ⟨rfl, rfl⟩) | (go_at_call 33; refine (dabove_any p cap S l HS.out A r HRR.out _ HA.out.lr).mono ?_; rintro e w9 ⟨rfl, rfl⟩))
  go_ret
  exact ⟨rfl, Ko.of HA.out.bel, HA.out.bm⟩
theorem ask4 (b : Nat) (S : Nat → Bool) (p : Option Addr) (cap : Nat) (l : List Int) (hS : Tl S l) (x1 x2 A B : Int) (w : World) (hB : Bm w b S) (hL : Laid w) (h0 : 0 < b) (hl : Lr w p l) (hg : ∀ g, p = some ⟨g, 0, none⟩ → g ≠ b) (hA : A < 9223372036854775808) (hB2 : B < 9223372036854775808) :
    Calls Tryd.prog 17 #[.agg #[.pointer (some ⟨b, 0, none⟩), .slice p l.length cap], .agg #[.int .i64 4, .int .i64 x1, .int .i64 x2, .int .i64 A, .int .i64 B]] w fun e w' => e = .returned (.bool true) ∧ Ko b w w' ∧ Bm w' b S := by
  have HS := hid hS
  have HA := hid (Aq.first b S p cap l 4 x1 x2 A B w hB hL hl)
  have HG := hid hg
  clear hS hB hL hl hg
  obtain ⟨z0, z1, z2, z3, z4, z5, z6⟩ := HA.out.cells
  obtain ⟨r, hr⟩ := blw_ex S A
  have HRR := hid hr
  clear hr
  go_enter Tryd.func17, Tryd.ntmps17
  go_wp2_with (first | (go_at_call 25; refine (below_at b S A r HRR.out _ HA.out.bm).mono ?_; rintro e w9 ⟨rfl, rfl⟩) | (go_at_call 34; refine (dbelow_any p cap S l HS.out A r HRR.out _ HA.out.lr).mono ?_; rintro e w9 ⟨rfl, rfl⟩))
  go_ret
  exact ⟨rfl, Ko.of HA.out.bel, HA.out.bm⟩
theorem ask5 (b : Nat) (S : Nat → Bool) (p : Option Addr) (cap : Nat) (l : List Int) (hS : Tl S l) (x1 x2 A B : Int) (w : World) (hB : Bm w b S) (hL : Laid w) (h0 : 0 < b) (hl : Lr w p l) (hg : ∀ g, p = some ⟨g, 0, none⟩ → g ≠ b) (hA : A < 9223372036854775808) (hB2 : B < 9223372036854775808) :
    Calls Tryd.prog 17 #[.agg #[.pointer (some ⟨b, 0, none⟩), .slice p l.length cap], .agg #[.int .i64 5, .int .i64 x1, .int .i64 x2, .int .i64 A, .int .i64 B]] w fun e w' => e = .returned (.bool true) ∧ Ko b w w' ∧ Bm w' b S := by
  have HS := hid hS
  have HA := hid (Aq.first b S p cap l 5 x1 x2 A B w hB hL hl)
  have HG := hid hg
  clear hS hB hL hl hg
  obtain ⟨z0, z1, z2, z3, z4, z5, z6⟩ := HA.out.cells
  have hlen : len S = l.length := HS.out.len.symm
  go_enter Tryd.func17, Tryd.ntmps17
  go_wp2_with fail
  rename_i K A0
  have HK0 := hid A0
  clear A0
  replace HA := hid HA.out.drew
  obtain ⟨x0, x1c, x2c, x3, x4, x5, x6⟩ := HA.out.cells
  go_region_with (first | (go_at_call 23; refine ((hlen ▸ len_any b S _ HA.out.bm HA.out.la : Calls Tryd.prog 23 _ _ fun e w' => e = .returned (.int .i64 (l.length : Nat)) ∧ Below _ _ w')).mono ?_; rintro e w9 ⟨rfl, hb9⟩; replace HA := hid (HA.out.step hb9); clear hb9; obtain ⟨y0, y1, y2, y3, y4, y5, y6⟩ := HA.out.cells))
  all_goals
    refine HK0.out _ _ ?_
    go_wp2_with fail
    go_ret
    exact ⟨rfl, Ko.of HA.out.bel, HA.out.bm⟩
theorem ask7 (b : Nat) (S : Nat → Bool) (p : Option Addr) (cap : Nat) (l : List Int) (hS : Tl S l) (x1 x2 A B : Int) (w : World) (hB : Bm w b S) (hL : Laid w) (h0 : 0 < b) (hl : Lr w p l) (hg : ∀ g, p = some ⟨g, 0, none⟩ → g ≠ b) (hA : A < 9223372036854775808) (hB2 : B < 9223372036854775808) :
    Calls Tryd.prog 17 #[.agg #[.pointer (some ⟨b, 0, none⟩), .slice p l.length cap], .agg #[.int .i64 7, .int .i64 x1, .int .i64 x2, .int .i64 A, .int .i64 B]] w fun e w' => e = .returned (.bool true) ∧ Ko b w w' ∧ Bm w' b S := by
  have HS := hid hS
  have HA := hid (Aq.first b S p cap l 7 x1 x2 A B w hB hL hl)
  have HG := hid hg
  clear hS hB hL hl hg
  obtain ⟨z0, z1, z2, z3, z4, z5, z6⟩ := HA.out.cells
  obtain ⟨r, hr⟩ := ats_ex S A
  have HRR := hid hr
  clear hr
  go_enter Tryd.func17, Tryd.ntmps17
  go_wp2_with (first | (go_at_call 28; refine (at_at b S A r HRR.out _ HA.out.bm HA.out.la hA).mono ?_; rintro e w9 ⟨rfl, hb9⟩; replace HA := hid (HA.out.step hb9); clear hb9; obtain ⟨y0, y1, y2, y3, y4, y5, y6⟩ := HA.out.cells) | (go_at_call 36; refine (dat_any p cap S l HS.out A r HRR.out _ HA.out.lr).mono ?_; rintro e w9 ⟨rfl, rfl⟩))
  go_ret
  exact ⟨rfl, Ko.of HA.out.bel, HA.out.bm⟩
theorem ask9 (b : Nat) (S : Nat → Bool) (p : Option Addr) (cap : Nat) (l : List Int) (hS : Tl S l) (x1 x2 A B : Int) (w : World) (hB : Bm w b S) (hL : Laid w) (h0 : 0 < b) (hl : Lr w p l) (hg : ∀ g, p = some ⟨g, 0, none⟩ → g ≠ b) (hA : A < 9223372036854775808) (hB2 : B < 9223372036854775808) :
    Calls Tryd.prog 17 #[.agg #[.pointer (some ⟨b, 0, none⟩), .slice p l.length cap], .agg #[.int .i64 9, .int .i64 x1, .int .i64 x2, .int .i64 A, .int .i64 B]] w fun e w' => e = .returned (.bool true) ∧ Ko b w w' ∧ Bm w' b S := by
  have HS := hid hS
  have HA := hid (Aq.first b S p cap l 9 x1 x2 A B w hB hL hl)
  have HG := hid hg
  clear hS hB hL hl hg
  obtain ⟨z0, z1, z2, z3, z4, z5, z6⟩ := HA.out.cells
  have HB0 := hid HA.out.bel
  have CG := hid (goes9 b S p cap l HS.out x1 x2 A B _ HA.out.bm HA.out.la h0 HA.out.lr HG.out)
  go_enter Tryd.func17, Tryd.ntmps17
  go_wp2_with (go_at_call 40; refine (CG.out).mono ?_; clear CG; rintro e w9 ⟨rfl, hk9, hm9⟩; have HK9 := hid ((Ko.of (b := b) HB0.out).trans hk9); have HM9 := hid hm9; clear hk9 hm9)
  go_ret
  exact ⟨rfl, HK9.out, HM9.out⟩
theorem ask10 (b : Nat) (S : Nat → Bool) (p : Option Addr) (cap : Nat) (l : List Int) (hS : Tl S l) (x1 x2 A B : Int) (w : World) (hB : Bm w b S) (hL : Laid w) (h0 : 0 < b) (hl : Lr w p l) (hg : ∀ g, p = some ⟨g, 0, none⟩ → g ≠ b) (hA : A < 9223372036854775808) (hB2 : B < 9223372036854775808) :
    Calls Tryd.prog 17 #[.agg #[.pointer (some ⟨b, 0, none⟩), .slice p l.length cap], .agg #[.int .i64 10, .int .i64 x1, .int .i64 x2, .int .i64 A, .int .i64 B]] w fun e w' => e = .returned (.bool true) ∧ Ko b w w' ∧ Bm w' b S := by
  have HS := hid hS
  have HA := hid (Aq.first b S p cap l 10 x1 x2 A B w hB hL hl)
  have HG := hid hg
  clear hS hB hL hl hg
  obtain ⟨z0, z1, z2, z3, z4, z5, z6⟩ := HA.out.cells
  have HB0 := hid HA.out.bel
  have CG := hid (goes10 b S p cap l HS.out x1 x2 A B _ HA.out.bm HA.out.la h0 HA.out.lr HG.out)
  go_enter Tryd.func17, Tryd.ntmps17
  go_wp2_with (go_at_call 40; refine (CG.out).mono ?_; clear CG; rintro e w9 ⟨rfl, hk9, hm9⟩; have HK9 := hid ((Ko.of (b := b) HB0.out).trans hk9); have HM9 := hid hm9; clear hk9 hm9)
  go_ret
  exact ⟨rfl, HK9.out, HM9.out⟩
end Go.Proofs.YtcbfgodknonefaaDoor
