/-
  What a stop order is refused for.
-/
import Derived.Test.YtnaekdfpdlkkcaaStC
namespace Go.Proofs.Ytnaekdfpdlkkcaa
open Go.RowKit Go.Deep Go.Shelf
set_option linter.unusedVariables false
set_option linter.unusedSimpArgs false
set_option maxHeartbeats 4000000
set_option maxRecDepth 100000
/-- what a stop order is refused for here. -/
def rfS (x : Sp) (high : Int) (n : Nat) : Int := if ckS x ≠ 0 then ckS x else if x.nm ≤ high then 132 else if 1 ≤ n then 133 else 0
theorem refusal_any (K : Nat) (fv : Value) (p : Option Addr) (n c : Nat) (high seq : Int) (x : Sp) (w : World) (hx : SpOk x) (hK : w.heap[K]? = some (.cells #[fv, .int .i64 1, .slice p n c, .int .u64 high, .int .u64 seq, .int .i64 0, .bool false] 54 (0, 0))) :
    Calls Try.prog 12 #[.pointer (some ⟨K, 0, none⟩), .agg #[.int .u64 x.nm, .int .u32 x.mb, .int .i64 x.sd, .int .i64 x.ty, .int .i64 x.tr, .int .i64 x.pr, .int .u64 x.qt, .int .u64 x.pk]] w fun e w' => e = .returned (.int .i64 (rfS x high n)) ∧ Below w.heap.size w w' := by
  have CC := hid (fun (U : World) => ckS_any x U hx)
  unfold rfS
  obtain ⟨y, hy⟩ : ∃ y, ckS x = y := ⟨_, rfl⟩
  rw [hy] at CC ⊢
  have HK := hid hK
  clear hy hx hK
  obtain ⟨R, hR⟩ : ∃ R, w.heap.size = R := ⟨_, rfl⟩
  obtain ⟨W, hW⟩ : ∃ U, w.alloc (.cells #[.int .u64 x.nm, .int .u32 x.mb, .int .i64 x.sd, .int .i64 x.ty, .int .i64 x.tr, .int .i64 x.pr, .int .u64 x.qt, .int .u64 x.pk] 27) = U := ⟨_, rfl⟩
  have b0 : Below w.heap.size w W := by rw [← hW]; exact ball _ _
  have HBW := hid b0
  have HR0 := hid (show W.heap[R]? = some (.cells #[.int .u64 x.nm, .int .u32 x.mb, .int .i64 x.sd, .int .i64 x.ty, .int .i64 x.tr, .int .i64 x.pr, .int .u64 x.qt, .int .u64 x.pk] 27 (0, 0)) from (by rw [← hW, ← hR]; exact World.alloc_heap_new _ _))
  have HW := hid hW
  have HRR := hid hR
  clear hR hW  b0
  have HCE := hid (fun (U : World) (hU : Below W.heap.size W U) => row8 (row_on HR0.out hU))
  have HCK := hid (fun (U : World) (hU : Below W.heap.size W U) => row7 (row_on HK.out (btr HBW.out hU)))
  by_cases y0 : y = 0
  · subst y0
    rw [if_neg (by simp)]
    by_cases h1 : x.nm ≤ high
    · rw [if_pos h1]
      have h1' : decide (x.nm ≤ high) = true := by simpa using h1
      clear h1
      go_enter Try.func12, Try.ntmps12
      go_upto_region 1 with fail
      rw [HW.out, HRR.out]
      obtain ⟨a0, a1, a2, a3, a4, a5, a6, a7⟩ := HCE.out W (Below.refl _ _)
      go_upto_region 4 with (go_at_call 21; with_reducible refine (CC.out _).mono ?_; rintro e w1 ⟨rfl, hb1⟩; have HB1 := hid hb1; clear hb1)
      clear a0 a1 a2 a3 a4 a5 a6 a7
      obtain ⟨a0, a1, a2, a3, a4, a5, a6, a7⟩ := HCE.out w1 HB1.out
      obtain ⟨k0, k1, k2, k3, k4, k5, k6⟩ := HCK.out w1 HB1.out
      go_quiet (fail)
      go_wp2
      go_ret
      exact ⟨rfl, btr (btr HBW.out HB1.out) (bdrew _ _)⟩
    · rw [if_neg h1]
      have h1' : decide (x.nm ≤ high) = false := by simpa using h1
      clear h1
      by_cases h2 : 1 ≤ n
      · rw [if_pos h2]
        have h2' : decide ((1 : Int) ≤ (n : Int)) = true := by simp; omega
        go_enter Try.func12, Try.ntmps12
        go_upto_region 1 with fail
        rw [HW.out, HRR.out]
        obtain ⟨a0, a1, a2, a3, a4, a5, a6, a7⟩ := HCE.out W (Below.refl _ _)
        go_upto_region 4 with (go_at_call 21; with_reducible refine (CC.out _).mono ?_; rintro e w1 ⟨rfl, hb1⟩; have HB1 := hid hb1; clear hb1)
        clear a0 a1 a2 a3 a4 a5 a6 a7
        obtain ⟨a0, a1, a2, a3, a4, a5, a6, a7⟩ := HCE.out w1 HB1.out
        obtain ⟨k0, k1, k2, k3, k4, k5, k6⟩ := HCK.out w1 HB1.out
        go_quiet (fail)
        go_upto_region 6 with fail
        go_quiet (fail)
        go_wp2
        go_ret
        exact ⟨rfl, btr (btr (btr HBW.out HB1.out) (bdrew _ _)) (bdrew _ _)⟩
      · rw [if_neg h2]
        obtain rfl : n = 0 := by omega
        go_enter Try.func12, Try.ntmps12
        go_upto_region 1 with fail
        rw [HW.out, HRR.out]
        obtain ⟨a0, a1, a2, a3, a4, a5, a6, a7⟩ := HCE.out W (Below.refl _ _)
        go_upto_region 4 with (go_at_call 21; with_reducible refine (CC.out _).mono ?_; rintro e w1 ⟨rfl, hb1⟩; have HB1 := hid hb1; clear hb1)
        clear a0 a1 a2 a3 a4 a5 a6 a7
        obtain ⟨a0, a1, a2, a3, a4, a5, a6, a7⟩ := HCE.out w1 HB1.out
        obtain ⟨k0, k1, k2, k3, k4, k5, k6⟩ := HCK.out w1 HB1.out
        go_quiet (fail)
        go_upto_region 6 with fail
        go_quiet (fail)
        go_wp2
        go_ret
        exact ⟨rfl, btr (btr (btr HBW.out HB1.out) (bdrew _ _)) (bdrew _ _)⟩
  · have y0' : (y != 0) = true := by simpa using y0
    rw [if_pos y0]
    clear y0
    obtain ⟨a0, a1, a2, a3, a4, a5, a6, a7⟩ := HCE.out W (Below.refl _ _)
    go_enter Try.func12, Try.ntmps12
    go_upto_region 1 with fail
    rw [HW.out, HRR.out]
    go_wp2_with (go_at_call 21; with_reducible refine (CC.out _).mono ?_; rintro e w1 ⟨rfl, hb1⟩; have HB1 := hid hb1; clear hb1)
    go_ret
    exact ⟨rfl, btr HBW.out HB1.out⟩
end Go.Proofs.Ytnaekdfpdlkkcaa
