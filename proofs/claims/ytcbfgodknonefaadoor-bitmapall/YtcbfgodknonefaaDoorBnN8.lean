/-
  ask, one of the drawn kinds. Written by mkn.py.
-/
import Derived.Test.YtcbfgodknonefaaDoorBnN
import Derived.Deep.RegionHeld3
namespace Go.Proofs.YtcbfgodknonefaaDoor
open Go.RowKit Go.Deep Bt
set_option linter.unusedVariables false
set_option maxRecDepth 100000
set_option maxHeartbeats 20000000

theorem ask8 (b : Nat) (S : Nat → Bool) (p : Option Addr) (cap : Nat) (l : List Int) (hS : Tl S l) (x1 x2 A B : Int) (w : World) (hB : Bm w b S) (hL : Laid w) (h0 : 0 < b) (hl : Lr w p l) (hg : ∀ g, p = some ⟨g, 0, none⟩ → g ≠ b) (hA : A < 9223372036854775808) (hB2 : B < 9223372036854775808) :
    Calls Tryd.prog 17 #[.agg #[.pointer (some ⟨b, 0, none⟩), .slice p l.length cap], .agg #[.int .i64 8, .int .i64 x1, .int .i64 x2, .int .i64 A, .int .i64 B]] w fun e w' => e = .returned (.bool true) ∧ Ko b w w' ∧ Bm w' b S := by
  have HS := hid hS
  have HA := hid (Aq.first b S p cap l 8 x1 x2 A B w hB hL hl)
  have HG := hid hg
  clear hS hB hL hl hg
  obtain ⟨z0, z1, z2, z3, z4, z5, z6⟩ := HA.out.cells
  go_enter Tryd.func17, Tryd.ntmps17
  go_wp2_with fail
  rename_i K A0
  have HK0 := hid A0
  clear A0
  replace HA := hid HA.out.drew
  obtain ⟨x0, x1c, x2c, x3, x4, x5, x6⟩ := HA.out.cells
  go_region_held3 (fun w' => w'.cell? ⟨w.heap.size, 0, none⟩ = some (.pointer (some ⟨b, 0, none⟩)) ∧ w'.cell? ⟨w.heap.size, 1, none⟩ = some (.slice p l.length cap) ∧ w'.cell? ⟨w.heap.size + 1, 3, none⟩ = some (.int .i64 A) ∧ w'.cell? ⟨w.heap.size + 1, 4, none⟩ = some (.int .i64 B)) (go_keep) (first | (go_at_call 19; refine (top_any b S _ HA.out.bm).mono ?_; rintro e w9 ⟨rfl, rfl⟩) | (go_at_call 37; refine (dtop_any p cap S l HS.out _ HA.out.lr).mono ?_; rintro e w9 ⟨rfl, rfl⟩) | (go_at_call 22; refine (mid_any b S A _ HA.out.bm).mono ?_; rintro e w9 ⟨rfl, rfl⟩) | (go_at_call 38; refine (dmid_any p cap S l HS.out A _ HA.out.lr).mono ?_; rintro e w9 ⟨rfl, rfl⟩) | (go_at_call 20; refine (low_any b S B _ HA.out.bm).mono ?_; rintro e w9 ⟨rfl, rfl⟩) | (go_at_call 39; refine (dlow_any p cap S l HS.out B _ HA.out.lr).mono ?_; rintro e w9 ⟨rfl, rfl⟩))
  all_goals
    refine HK0.out _ _ ?_
    go_wp2_with fail
    go_ret
    exact ⟨rfl, Ko.of HA.out.bel, HA.out.bm⟩
end Go.Proofs.YtcbfgodknonefaaDoor
