/-
  MessagePacks: the walk.
-/
import Derived.Test.YtnhipamajelalaaMgK
namespace Go.Proofs.Ytnhipamajelalaa
open Go.RowKit Go.Maps Go.Deep Go.Lib
set_option linter.unusedVariables false
set_option linter.unusedSimpArgs false

theorem pw_len (x : Inp) : x.pw.length = 7 := by
  unfold Inp.pw
  split
  · exact frW_len _ _ _
  · rfl
theorem cells_F {w : World} {g : Nat} {k a0 a1 a2 a3 a4 a5 a6 : Int} (h : w.heap[g]? = some (.cells (frV k [a0, a1, a2, a3, a4, a5, a6]) 30 (0, 0))) : w.cell? ⟨g, 0, none⟩ = some (.int .u8 k) ∧ w.cell? ⟨g, 1, none⟩ = some (.int .u64 a0) ∧ w.cell? ⟨g, 2, none⟩ = some (.int .u64 a1) ∧ w.cell? ⟨g, 3, none⟩ = some (.int .u64 a2) ∧ w.cell? ⟨g, 4, none⟩ = some (.int .u64 a3) ∧ w.cell? ⟨g, 5, none⟩ = some (.int .u64 a4) ∧ w.cell? ⟨g, 6, none⟩ = some (.int .u64 a5) ∧ w.cell? ⟨g, 7, none⟩ = some (.int .u64 a6) :=
  ⟨row_cell h 0, row_cell h 1, row_cell h 2, row_cell h 3, row_cell h 4, row_cell h 5, row_cell h 6, row_cell h 7⟩
theorem eqFr_same (k a0 a1 a2 a3 a4 a5 a6 : Int) (w : World) : (Op.equalIn 10000 30 (.agg #[.int .u8 k, .int .u64 a0, .int .u64 a1, .int .u64 a2, .int .u64 a3, .int .u64 a4, .int .u64 a5, .int .u64 a6]) (.agg #[.int .u8 k, .int .u64 a0, .int .u64 a1, .int .u64 a2, .int .u64 a3, .int .u64 a4, .int .u64 a5, .int .u64 a6])).run Try.prog w = .ok true w := by
  have h := eqFr k k a0 a1 a2 a3 a4 a5 a6 a0 a1 a2 a3 a4 a5 a6 w
  simpa [frV, uv] using h
set_option maxHeartbeats 2000000 in
set_option maxRecDepth 100000 in
theorem packs_walk (x : Inp) (hx : x.Ok) (hr : x.Rg) (w : World) : Calls Try.prog 3 #[.agg x.v] w fun e w' => e = .returned (.bool true) ∧ Below w.heap.size w w' := by
  have PA := hid (fun w => pack_any x hx w)
  have RA := hid (fun w => rpack_any x hx hr w)
  obtain ⟨a0, a1, a2, a3, a4, a5, a6, hl⟩ := list7 (pw_len x)
  rw [hl] at PA RA
  obtain ⟨k, hk⟩ : ∃ k, x.pk = k := ⟨_, rfl⟩
  obtain ⟨E, hE⟩ : ∃ k, x.e = k := ⟨_, rfl⟩
  rw [hk, hE] at PA RA
  have hfv : frV k [a0, a1, a2, a3, a4, a5, a6] = #[.int .u8 k, .int .u64 a0, .int .u64 a1, .int .u64 a2, .int .u64 a3, .int .u64 a4, .int .u64 a5, .int .u64 a6] := rfl
  rw [hfv] at PA RA
  have q := eqFr_same k a0 a1 a2 a3 a4 a5 a6
  have HI := hid (heap_alloc_new w (.cells x.v 27))
  clear hl hk hE hfv hx hr
  unfold Inp.v iV at PA RA
  unfold Inp.v iV
  go_enter Try.func3, Try.ntmps3
  go_wp2_with (first | (go_at_call 6; refine (PA.out _).mono ?_; rintro e w2 ⟨rfl, hb⟩; have HB2 := hid hb; clear hb; refine Hid.out ?_))
  have HBW := hid (btr (ball w (.cells x.v 27)) HB2.out)
  have HI2 := hid (show (w2.alloc (.cells (frV k [a0, a1, a2, a3, a4, a5, a6]) 30)).heap[w.heap.size]? = some (.cells x.v 27 (0, 0)) from row_on (row_on HI.out HB2.out) (ball _ _))
  clear HI HB2 PA
  unfold Inp.v at HI2
  obtain ⟨c0, c1, c2, c3, c4, c5, c6, c7, c8, c9, c10⟩ := cells_I HI2.out
  have hfv : frV k [a0, a1, a2, a3, a4, a5, a6] = #[.int .u8 k, .int .u64 a0, .int .u64 a1, .int .u64 a2, .int .u64 a3, .int .u64 a4, .int .u64 a5, .int .u64 a6] := rfl
  rw [hfv] at c0 c1 c2 c3 c4 c5 c6 c7 c8 c9 c10
  clear hfv
  refine hid ?_
  go_wp2_with (first | (go_at_call 7; refine (RA.out _).mono ?_; rintro e w3 ⟨rfl, hb⟩; have HB3 := hid hb; clear hb; refine Hid.out ?_))
  have HR := hid (show (w3.alloc (.cells (frV k [a0, a1, a2, a3, a4, a5, a6]) 30)).heap[w2.heap.size]? = some (.cells (frV k [a0, a1, a2, a3, a4, a5, a6]) 30 (0, 0)) from row_on (row_on (heap_alloc_new _ _) HB3.out) (ball _ _))
  obtain ⟨d0, d1, d2, d3, d4, d5, d6, d7⟩ := cells_F HR.out
  have hfv : frV k [a0, a1, a2, a3, a4, a5, a6] = #[.int .u8 k, .int .u64 a0, .int .u64 a1, .int .u64 a2, .int .u64 a3, .int .u64 a4, .int .u64 a5, .int .u64 a6] := rfl
  rw [hfv] at d0 d1 d2 d3 d4 d5 d6 d7
  have HBE := hid (show Below w.heap.size w (w3.alloc (.cells #[.int .u8 k, .int .u64 a0, .int .u64 a1, .int .u64 a2, .int .u64 a3, .int .u64 a4, .int .u64 a5, .int .u64 a6] 30)) from btr (btr (btr HBW.out (ball _ _)) HB3.out) (ball _ _))
  clear hfv HB3 c0 c1 c2 c3 c4 c5 c6 c7 c8 c9 c10 HI2 HBW HR
  refine hid ?_
  go_wp2
  go_ret
  exact ⟨by simp, HBE.out⟩
end Go.Proofs.Ytnhipamajelalaa
