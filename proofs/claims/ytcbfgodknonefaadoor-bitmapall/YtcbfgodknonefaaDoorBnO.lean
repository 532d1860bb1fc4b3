/-
  alike: a map tells just the ticks of the document.
-/
import Derived.Test.YtcbfgodknonefaaDoorBnN2
import Derived.Test.YtcbfgodknonefaaDoorBnN6
import Derived.Test.YtcbfgodknonefaaDoorBnN8
import Derived.Deep.RegionHeld3
namespace Go.Proofs.YtcbfgodknonefaaDoor
open Go.RowKit Go.Deep Bt
set_option linter.unusedVariables false
set_option maxRecDepth 100000
set_option maxHeartbeats 4000000

structure Xq (b : Nat) (S : Nat → Bool) (p : Option Addr) (cap : Nat) (l : List Int) (w W : World) : Prop where
  bel : Below w.heap.size w W
  x : W.heap[w.heap.size]? = some (.cells #[.pointer (some ⟨b, 0, none⟩), .slice p l.length cap] 32 (0, 0))
  bm : Bm W b S
  la : Laid W
  lr : Lr W p l
theorem Xq.step {b : Nat} {S : Nat → Bool} {p : Option Addr} {cap : Nat} {l : List Int} {w W W' : World} (h : Xq b S p cap l w W) (hb : Below W.heap.size W W') : Xq b S p cap l w W' :=
  have lt : ∀ {j : Nat} {o : Obj}, W.heap[j]? = some o → j < W.heap.size := fun h => (Array.getElem?_eq_some_iff.1 h).1
  ⟨h.bel.trans ⟨hb.os, hb.tape, hb.output, hb.size, fun j hj => hb.block j (Nat.lt_of_lt_of_le hj h.bel.size)⟩, (hb.block _ (lt h.x)).trans h.x, h.bm.on hb, h.la.same (hb.block 0 (by have := h.bm.lt; omega)), h.lr.same (fun g _ hg => hb.block g hg)⟩
theorem Xq.drew {b : Nat} {S : Nat → Bool} {p : Option Addr} {cap : Nat} {l : List Int} {w W : World} (h : Xq b S p cap l w W) : Xq b S p cap l w W.drew := h.step (below_drews rfl rfl rfl rfl)
theorem Xq.first (b : Nat) (S : Nat → Bool) (p : Option Addr) (cap : Nat) (l : List Int) (w : World) (hB : Bm w b S) (hL : Laid w) (hl : Lr w p l) :
    Xq b S p cap l w (w.alloc (.cells #[.pointer (some ⟨b, 0, none⟩), .slice p l.length cap] 32)) := by
  have hb : Below w.heap.size w (w.alloc (.cells #[.pointer (some ⟨b, 0, none⟩), .slice p l.length cap] 32)) := (Below.refl _ w).alloc (Nat.le_refl _) _
  exact ⟨hb, World.alloc_heap_new _ _, hB.on hb, hL.same (hb.block 0 (by have := hB.lt; omega)), hl.same (fun g _ hg => hb.block g hg)⟩
theorem Xq.cells {b : Nat} {S : Nat → Bool} {p : Option Addr} {cap : Nat} {l : List Int} {w W : World} (h : Xq b S p cap l w W) :
    W.cell? ⟨w.heap.size, 0, none⟩ = some (.pointer (some ⟨b, 0, none⟩)) ∧ W.cell? ⟨w.heap.size, 1, none⟩ = some (.slice p l.length cap) :=
  ⟨row_cell h.x 0, row_cell h.x 1⟩
theorem alike_any (b : Nat) (S : Nat → Bool) (p : Option Addr) (cap : Nat) (l : List Int) (hS : Tl S l) (w : World) (hB : Bm w b S) (hL : Laid w) (hl : Lr w p l) :
    Calls Tryd.prog 18 #[.agg #[.pointer (some ⟨b, 0, none⟩), .slice p l.length cap]] w fun e w' => e = .returned (.bool true) ∧ Below w.heap.size w w' := by
  have HS := hid hS
  have HA := hid (Xq.first b S p cap l w hB hL hl)
  have ll : l.length ≤ 262144 := by rw [hS.len]; exact len_le S
  have hlen : len S = l.length := hS.len.symm
  clear hS hB hL hl
  obtain ⟨z0, z1⟩ := HA.out.cells
  go_enter Tryd.func18, Tryd.ntmps18
  go_wp2_with fail
  rename_i K A0
  have HK0 := hid A0
  clear A0
  replace HA := hid HA.out.drew
  obtain ⟨x0, x1⟩ := HA.out.cells
  go_region_held3 (fun w' => w'.cell? ⟨w.heap.size, 0, none⟩ = some (.pointer (some ⟨b, 0, none⟩)) ∧ w'.cell? ⟨w.heap.size, 1, none⟩ = some (.slice p l.length cap)) (go_keep) (first | (go_at_call 23; refine ((hlen ▸ len_any b S _ HA.out.bm HA.out.la : Calls Tryd.prog 23 _ _ fun e w' => e = .returned (.int .i64 (l.length : Nat)) ∧ Below _ _ w')).mono ?_; rintro e w9 ⟨rfl, hb9⟩; replace HA := hid (HA.out.step hb9); clear hb9; obtain ⟨y0, y1⟩ := HA.out.cells) | (go_at_call 19; refine (top_any b S _ HA.out.bm).mono ?_; rintro e w9 ⟨rfl, rfl⟩) | (go_at_call 37; refine (dtop_any p cap S l HS.out _ HA.out.lr).mono ?_; rintro e w9 ⟨rfl, rfl⟩))
  all_goals refine HK0.out _ _ ?_
  all_goals go_wp2_with fail
  have HA2 := hid HA.out
  clear HK0 HA
  go_loopw [3] (fun iv wr => ∃ i : Nat, i ≤ l.length ∧ iv = .int .i64 i ∧ Hid (Xq b S p cap l w wr)) (fun iv _ => l.length - (intOf iv).toNat)
  case atStart => exact ⟨0, Nat.zero_le _, rfl, HA2⟩
  case round =>
    obtain ⟨i, hi, rfl, HX⟩ := hrel
    clear HA2
    obtain ⟨c0, c1⟩ := HX.out.cells
    by_cases hl : i < l.length
    · obtain ⟨g, rfl, hcell⟩ := HX.out.lr i hl
      obtain ⟨u, e, hu, hu2, hu3⟩ := HS.out.get i hl
      rw [e] at hcell
      have CH := hid (fun (W : World) (hB : Bm W b S) => show Calls Tryd.prog 26 #[.pointer (some ⟨b, 0, none⟩), .int .i64 (u : Int)] W (fun e w' => e = .returned (.bool true) ∧ Below W.heap.size W w') from by have := has_any b S (u : Int) W hB; rw [hasI_nat S u hu2, hu] at this; exact this)
      have i0 : (0 : Int) ≤ (i : Int) := by omega
      have i1 : (i : Int) < (l.length : Int) := by omega
      have u0 : (0 : Int) ≤ (u : Int) := by omega
      have u1 : (u : Int) < 262144 := by omega
      clear hu hu2 hu3 e
      go_wp2_with fail
      rename_i K A0
      have HK0 := hid A0
      clear A0
      replace HX := hid HX.out.drew
      obtain ⟨x0, x1⟩ := HX.out.cells
      have hcd := (cell_same (q := i) (g := g) (w' := World.drew _) rfl).trans hcell
      go_region_held3 (fun w' => w'.cell? ⟨w.heap.size, 0, none⟩ = some (.pointer (some ⟨b, 0, none⟩)) ∧ w'.cell? ⟨w.heap.size, 1, none⟩ = some (.slice (some ⟨g, 0, none⟩) l.length cap) ∧ w'.cell? ⟨g, i, none⟩ = some (.int .i64 (u : Int))) (go_keep) (first | (go_at_call 26; refine (CH.out _ HX.out.bm).mono ?_; rintro e w9 ⟨rfl, hb9⟩; replace HX := hid (HX.out.step hb9); have y2 := (cell_same (q := i) (hb9.block g (cell_lt hcd))).trans hcd; clear hb9; obtain ⟨y0, y1⟩ := HX.out.cells) | (go_at_call 20; refine (low_any b S _ _ HX.out.bm).mono ?_; rintro e w9 ⟨rfl, rfl⟩) | (go_at_call 39; refine (dlow_any (some ⟨g, 0, none⟩) cap S l HS.out _ _ HX.out.lr).mono ?_; rintro e w9 ⟨rfl, rfl⟩) | (go_at_call 22; refine (mid_any b S _ _ HX.out.bm).mono ?_; rintro e w9 ⟨rfl, rfl⟩) | (go_at_call 38; refine (dmid_any (some ⟨g, 0, none⟩) cap S l HS.out _ _ HX.out.lr).mono ?_; rintro e w9 ⟨rfl, rfl⟩))
      all_goals refine HK0.out _ _ ?_
      all_goals go_wp2_with fail
      all_goals go_roundw
      case rel => exact ⟨i + 1, by omega, by go_num, HX⟩
      case measure => simp [intOf]; omega
    · have i1 : ¬ ((i : Int) < (l.length : Int)) := by omega
      go_wp2_with fail
      go_ret
      exact ⟨rfl, HX.out.bel⟩
end Go.Proofs.YtcbfgodknonefaaDoor
