/-
  crossed.
-/
import Derived.Test.YtjpkodllemoniaaDoorRcC
namespace Go.Proofs.YtjpkodllemoniaaDoor.Sr
open Go.RowKit Go.Deep
set_option linter.unusedVariables false
set_option linter.unusedSimpArgs false
set_option maxHeartbeats 8000000
set_option maxRecDepth 100000
theorem bdwN (w : World) (n : Nat) : Below w.heap.size w (w.drewN n) := ⟨rfl, rfl, rfl, Nat.le_refl _, fun _ _ => rfl⟩
/-- a book, as it is handed over. -/
structure Bo where
  cap : Int
  meet : Int
  pb : Option Addr
  cb : Nat
  b : List Rt
  ps : Option Addr
  cs : Nat
  s : List Rt
  high : Int
  seq : Int
def bor (x : Bo) : Array Value := #[.int .i64 x.cap, .int .i64 x.meet, .slice x.pb x.b.length x.cb, .slice x.ps x.s.length x.cs, .int .u64 x.high, .int .u64 x.seq]
/-- the two that stand first would trade. -/
def Crs (b s : List Rt) : Prop := ∃ (h1 : 0 < b.length) (h2 : 0 < s.length), (s[0]).pr ≤ (b[0]).pr
instance (b s : List Rt) : Decidable (Crs b s) := by unfold Crs; infer_instance
theorem crossed_any (x : Bo) (w : World) (hb : Rz w x.pb x.b) (hs : Rz w x.ps x.s) (hn : x.b.length + x.s.length ≤ 4096) :
    Calls Tryd.prog 31 #[.agg (bor x)] w fun e w' => e = .returned (.bool (decide (Crs x.b x.s))) ∧ Below w.heap.size w w' := by
  obtain ⟨cap, meet, pb, cb, b, ps, cs, s, high, seq⟩ := x
  unfold bor
  simp only at *
  obtain ⟨W, hW⟩ : ∃ W, w.alloc (.cells #[.int .i64 cap, .int .i64 meet, .slice pb b.length cb, .slice ps s.length cs, .int .u64 high, .int .u64 seq] 27) = W := ⟨_, rfl⟩
  have HB := hid (show Below w.heap.size w W from by rw [← hW]; exact ball _ _)
  have hh : W.heap[w.heap.size]? = some (.cells #[.int .i64 cap, .int .i64 meet, .slice pb b.length cb, .slice ps s.length cs, .int .u64 high, .int .u64 seq] 27 (0, 0)) := by rw [← hW]; exact World.alloc_heap_new _ _
  have c2 : W.cell? ⟨w.heap.size, 2, none⟩ = some (.slice pb b.length cb) := row_cell hh 2
  have c3 : W.cell? ⟨w.heap.size, 3, none⟩ = some (.slice ps s.length cs) := row_cell hh 3
  have hb2 := hb.on HB.out
  have hs2 := hs.on HB.out
  clear hh hb hs
  by_cases h1 : 0 < b.length
  · by_cases h2 : 0 < s.length
    · obtain ⟨g, rfl, -, -, -, -, a3, -⟩ := hb2 0 h1
      obtain ⟨g', rfl, -, -, -, -, b3, -⟩ := hs2 0 h2
      have hC : decide (Crs b s) = decide ((s[0]).pr ≤ (b[0]).pr) := by
        rw [Bool.eq_iff_iff]
        simp only [decide_eq_true_eq]
        exact ⟨fun ⟨_, _, h⟩ => h, fun h => ⟨h1, h2, h⟩⟩
      rw [hC]
      clear hC
      obtain ⟨u, hu⟩ : ∃ u, (b[0]).pr = u := ⟨_, rfl⟩
      obtain ⟨v, hv⟩ : ∃ u, (s[0]).pr = u := ⟨_, rfl⟩
      rw [hu] at a3 ⊢
      rw [hv] at b3 ⊢
      simp only [Nat.zero_mul, Nat.zero_add] at a3 b3
      obtain ⟨n, hn1⟩ : ∃ n, b.length = n := ⟨_, rfl⟩
      obtain ⟨m, hm1⟩ : ∃ n, s.length = n := ⟨_, rfl⟩
      rw [hn1] at h1 hn c2 hW ⊢
      rw [hm1] at h2 hn c3 hW ⊢
      have n0 : (0 : Int) < (n : Int) := by omega
      have m0 : (0 : Int) < (m : Int) := by omega
      have dn : decide (0 < n) = true := decide_eq_true h1
      have dm : decide (0 < m) = true := decide_eq_true h2
      clear hb2 hs2 hu hv hn1 hm1
      go_enter Tryd.func31, Tryd.ntmps31
      go_upto_region 1 with fail
      clear hW
      go_big_quiet (fail)
      go_wp2
      go_ret
      exact ⟨rfl, btr HB.out (bdwN _ _)⟩
    · have h3 : s.length = 0 := by omega
      have hC : decide (Crs b s) = false := decide_eq_false (fun ⟨_, h, _⟩ => h2 h)
      rw [hC]
      clear hC
      rw [h3] at c3 hW ⊢
      obtain ⟨n, hn1⟩ : ∃ n, b.length = n := ⟨_, rfl⟩
      rw [hn1] at h1 hn c2 hW ⊢
      have n0 : (0 : Int) < (n : Int) := by omega
      have dn : decide (0 < n) = true := decide_eq_true h1
      clear hb2 hs2 hn1 h2
      go_enter Tryd.func31, Tryd.ntmps31
      go_upto_region 1 with fail
      clear hW
      go_big_quiet (fail)
      go_wp2
      go_ret
      exact ⟨rfl, btr HB.out (bdwN _ _)⟩
  · have h3 : b.length = 0 := by omega
    have hC : decide (Crs b s) = false := decide_eq_false (fun ⟨h, _⟩ => h1 h)
    rw [hC]
    clear hC
    rw [h3] at c2 hW ⊢
    clear hb2 hs2 h1
    go_enter Tryd.func31, Tryd.ntmps31
    go_upto_region 1 with fail
    clear hW
    go_big_quiet (fail)
    go_wp2
    go_ret
    exact ⟨rfl, btr HB.out (bdwN _ _)⟩
end Go.Proofs.YtjpkodllemoniaaDoor.Sr
