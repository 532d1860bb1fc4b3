/-
  Quotes are compared.
-/
import Derived.Test.YtnmkfdndfhefiaaGreatAuG
namespace Go.Proofs.YtnmkfdndfhefiaaGreat
open Go.RowKit Go.Deep Go.Sort
set_option linter.unusedVariables false
set_option linter.unusedSimpArgs false
set_option maxHeartbeats 4000000
set_option maxRecDepth 100000
def cm3 (x y : Int) : Int := if x < y then -1 else if y < x then 1 else 0
theorem row5 {w : World} {g : Nat} {t : TypeId} {a0 a1 a2 a3 a4 : Value} (h : w.heap[g]? = some (.cells #[a0, a1, a2, a3, a4] t (0, 0))) : w.cell? ⟨g, 0, none⟩ = some a0 ∧ w.cell? ⟨g, 1, none⟩ = some a1 ∧ w.cell? ⟨g, 2, none⟩ = some a2 ∧ w.cell? ⟨g, 3, none⟩ = some a3 ∧ w.cell? ⟨g, 4, none⟩ = some a4 :=
  ⟨row_cell h 0, row_cell h 1, row_cell h 2, row_cell h 3, row_cell h 4⟩
theorem nanU_any (x : Int) (w : World) : Calls Tryz.prog 79 #[.int .u64 x] w fun e w' => e = .returned (.bool false) ∧ w' = w := by
  go_enter Tryz.func79, Tryz.ntmps79
  go_wp2
  go_ret
  exact ⟨by simp, rfl⟩
theorem nanI_any (x : Int) (w : World) : Calls Tryz.prog 91 #[.int .i64 x] w fun e w' => e = .returned (.bool false) ∧ w' = w := by
  go_enter Tryz.func91, Tryz.ntmps91
  go_wp2
  go_ret
  exact ⟨by simp, rfl⟩
theorem cmpU_any (x y : Int) (w : World) : Calls Tryz.prog 59 #[.int .u64 x, .int .u64 y] w fun e w' => e = .returned (.int .i64 (cm3 x y)) ∧ Below w.heap.size w w' := by
  have N := hid (fun (z : Int) U => nanU_any z U)
  by_cases h1 : x < y
  · have HE := hid (show cm3 x y = -1 by simp [cm3, h1])
    go_enter Tryz.func59, Tryz.ntmps59
    go_wp2_with (go_at_call 79; with_reducible refine (N.out _ _).mono ?_; rintro e w1 ⟨rfl, rfl⟩)
    go_ret
    exact ⟨by rw [HE.out]; rfl, Below.refl _ _⟩
  · by_cases h2 : y < x
    · have HE := hid (show cm3 x y = 1 by simp [cm3, h1, h2])
      go_enter Tryz.func59, Tryz.ntmps59
      go_wp2_with (go_at_call 79; with_reducible refine (N.out _ _).mono ?_; rintro e w1 ⟨rfl, rfl⟩)
      go_ret
      exact ⟨by rw [HE.out]; rfl, Below.refl _ _⟩
    · have HE := hid (show cm3 x y = 0 by simp [cm3, h1, h2])
      go_enter Tryz.func59, Tryz.ntmps59
      go_wp2_with (go_at_call 79; with_reducible refine (N.out _ _).mono ?_; rintro e w1 ⟨rfl, rfl⟩)
      go_ret
      exact ⟨by rw [HE.out]; rfl, Below.refl _ _⟩
theorem cmpI_any (x y : Int) (w : World) : Calls Tryz.prog 86 #[.int .i64 x, .int .i64 y] w fun e w' => e = .returned (.int .i64 (cm3 x y)) ∧ Below w.heap.size w w' := by
  have N := hid (fun (z : Int) U => nanI_any z U)
  by_cases h1 : x < y
  · have HE := hid (show cm3 x y = -1 by simp [cm3, h1])
    go_enter Tryz.func86, Tryz.ntmps86
    go_wp2_with (go_at_call 91; with_reducible refine (N.out _ _).mono ?_; rintro e w1 ⟨rfl, rfl⟩)
    go_ret
    exact ⟨by rw [HE.out]; rfl, Below.refl _ _⟩
  · by_cases h2 : y < x
    · have HE := hid (show cm3 x y = 1 by simp [cm3, h1, h2])
      go_enter Tryz.func86, Tryz.ntmps86
      go_wp2_with (go_at_call 91; with_reducible refine (N.out _ _).mono ?_; rintro e w1 ⟨rfl, rfl⟩)
      go_ret
      exact ⟨by rw [HE.out]; rfl, Below.refl _ _⟩
    · have HE := hid (show cm3 x y = 0 by simp [cm3, h1, h2])
      go_enter Tryz.func86, Tryz.ntmps86
      go_wp2_with (go_at_call 91; with_reducible refine (N.out _ _).mono ?_; rintro e w1 ⟨rfl, rfl⟩)
      go_ret
      exact ⟨by rw [HE.out]; rfl, Below.refl _ _⟩
theorem quote1_any (z : Qt) (w : World) : Calls Tryz.prog 37 #[.agg #[.int .i64 z.pr, .int .u64 z.vo, .int .u64 z.su, .int .i64 z.sd, .int .i64 z.ru]] w fun e w' => e = .returned (.int .u64 z.vo) ∧ Below w.heap.size w w' := by
  go_enter Tryz.func37, Tryz.ntmps37
  go_wp2
  go_ret
  exact ⟨rfl, ball _ _⟩
theorem decided1_any (z : Qt) (w : World) : Calls Tryz.prog 65 #[.agg #[.int .i64 z.pr, .int .u64 z.vo, .int .u64 z.su, .int .i64 z.sd, .int .i64 z.ru]] w fun e w' => e = .returned (.int .u64 z.su) ∧ Below w.heap.size w w' := by
  go_enter Tryz.func65, Tryz.ntmps65
  go_wp2
  go_ret
  exact ⟨rfl, ball _ _⟩
theorem decided2_any (R : Nat) (r : Int) (z : Qt) (w : World) (hR : w.cell? ⟨R, 0, none⟩ = some (.int .i64 r)) (hs : R < w.heap.size) (h0 : 0 ≤ r) (h1 : r < 262144) (h2 : 0 ≤ z.pr) (h3 : z.pr < 262144) : Calls Tryz.prog 68 #[.agg #[.int .i64 z.pr, .int .u64 z.vo, .int .u64 z.su, .int .i64 z.sd, .int .i64 z.ru], .pointer (some ⟨R, 0, none⟩)] w fun e w' => e = .returned (.int .i64 (max (z.pr - r) (r - z.pr))) ∧ Below w.heap.size w w' := by
  have a1 : IntKind.i64.wrap (z.pr - r) = z.pr - r := by rw [IntKind.wrap_i64]; omega
  have a2 : IntKind.i64.wrap (r - z.pr) = r - z.pr := by rw [IntKind.wrap_i64]; omega
  have nX : R ≠ w.heap.size := by omega
  go_enter Tryz.func68, Tryz.ntmps68
  go_wp2
  go_ret
  exact ⟨rfl, ball _ _⟩
theorem most1_any (M : Nat) (a b : Qt) (w : World) (hM : w.cell? ⟨M, 0, none⟩ = some (.func (.func 37) #[] #[])) (hs : M < w.heap.size) :
    Calls Tryz.prog 58 #[.agg #[.int .i64 a.pr, .int .u64 a.vo, .int .u64 a.su, .int .i64 a.sd, .int .i64 a.ru], .agg #[.int .i64 b.pr, .int .u64 b.vo, .int .u64 b.su, .int .i64 b.sd, .int .i64 b.ru], .pointer (some ⟨M, 0, none⟩)] w fun e w' => e = .returned (.int .i64 (cm3 (b.vo) (a.vo))) ∧ Below w.heap.size w w' := by
  obtain ⟨R, hR⟩ : ∃ R, w.heap.size = R := ⟨_, rfl⟩
  obtain ⟨W, hW⟩ : ∃ W, (w.alloc (.cells #[.int .i64 a.pr, .int .u64 a.vo, .int .u64 a.su, .int .i64 a.sd, .int .i64 a.ru] 57)).alloc (.cells #[.int .i64 b.pr, .int .u64 b.vo, .int .u64 b.su, .int .i64 b.sd, .int .i64 b.ru] 57) = W := ⟨_, rfl⟩
  have HB := hid (show Below w.heap.size w W from by rw [← hW]; exact btr (ball _ _) (ball _ _))
  have r1 : W.heap[R]? = some (.cells #[.int .i64 a.pr, .int .u64 a.vo, .int .u64 a.su, .int .i64 a.sd, .int .i64 a.ru] 57 (0, 0)) := by rw [← hW, ← hR]; exact row_on (World.alloc_heap_new _ _) (ball _ _)
  have r2 : W.heap[R + 1]? = some (.cells #[.int .i64 b.pr, .int .u64 b.vo, .int .u64 b.su, .int .i64 b.sd, .int .i64 b.ru] 57 (0, 0)) := by
    rw [← hW, ← hR]
    have := World.alloc_heap_new (w.alloc (.cells #[.int .i64 a.pr, .int .u64 a.vo, .int .u64 a.su, .int .i64 a.sd, .int .i64 a.ru] 57)) (.cells #[.int .i64 b.pr, .int .u64 b.vo, .int .u64 b.su, .int .i64 b.sd, .int .i64 b.ru] 57)
    simpa using this
  have HS := hid (show ∀ U, Below W.heap.size W U → U.cell? ⟨M, 0, none⟩ = some (.func (.func 37) #[] #[]) ∧ U.cell? ⟨R, 0, none⟩ = some (.int .i64 a.pr) ∧ U.cell? ⟨R, 1, none⟩ = some (.int .u64 a.vo) ∧ U.cell? ⟨R, 2, none⟩ = some (.int .u64 a.su) ∧ U.cell? ⟨R, 3, none⟩ = some (.int .i64 a.sd) ∧ U.cell? ⟨R, 4, none⟩ = some (.int .i64 a.ru) ∧ U.cell? ⟨R + 1, 0, none⟩ = some (.int .i64 b.pr) ∧ U.cell? ⟨R + 1, 1, none⟩ = some (.int .u64 b.vo) ∧ U.cell? ⟨R + 1, 2, none⟩ = some (.int .u64 b.su) ∧ U.cell? ⟨R + 1, 3, none⟩ = some (.int .i64 b.sd) ∧ U.cell? ⟨R + 1, 4, none⟩ = some (.int .i64 b.ru) from fun U hU => by
    obtain ⟨a0, a1, a2, a3, a4⟩ := row5 (row_on r1 hU)
    obtain ⟨b0, b1, b2, b3, b4⟩ := row5 (row_on r2 hU)
    exact ⟨((btr HB.out hU).cell (p := ⟨M, 0, none⟩) hs).trans hM, a0, a1, a2, a3, a4, b0, b1, b2, b3, b4⟩)
  have CA := hid (fun U (hU : Below W.heap.size W U) => on_b (quote1_any a U) hU)
  have CB := hid (fun U (hU : Below W.heap.size W U) => on_b (quote1_any b U) hU)
  have CC := hid (fun U (hU : Below W.heap.size W U) => on_b (cmpU_any (b.vo) (a.vo) U) hU)
  have HW := hid hW
  have HRR := hid hR
  clear hM hW hR r1 r2
  go_enter Tryz.func58, Tryz.ntmps58
  go_upto_region 1 with fail
  rw [HW.out, HRR.out]
  obtain ⟨k0, k1, k2, k3, k4, k5, k6, k7, k8, k9, k10⟩ := HS.out W (Below.refl _ _)
  go_region_held3 (fun U => U.cell? ⟨M, 0, none⟩ = some (.func (.func 37) #[] #[]) ∧ U.cell? ⟨R, 0, none⟩ = some (.int .i64 a.pr) ∧ U.cell? ⟨R, 1, none⟩ = some (.int .u64 a.vo) ∧ U.cell? ⟨R, 2, none⟩ = some (.int .u64 a.su) ∧ U.cell? ⟨R, 3, none⟩ = some (.int .i64 a.sd) ∧ U.cell? ⟨R, 4, none⟩ = some (.int .i64 a.ru) ∧ U.cell? ⟨R + 1, 0, none⟩ = some (.int .i64 b.pr) ∧ U.cell? ⟨R + 1, 1, none⟩ = some (.int .u64 b.vo) ∧ U.cell? ⟨R + 1, 2, none⟩ = some (.int .u64 b.su) ∧ U.cell? ⟨R + 1, 3, none⟩ = some (.int .i64 b.sd) ∧ U.cell? ⟨R + 1, 4, none⟩ = some (.int .i64 b.ru)) (go_keep) (first | (go_at_call 37; with_reducible refine (CB.out _ (bdrew1 W)).mono ?_; rintro e v1 ⟨rfl, V1⟩; obtain ⟨k0, k1, k2, k3, k4, k5, k6, k7, k8, k9, k10⟩ := HS.out v1 V1.out) | (go_at_call 37; with_reducible refine (CA.out _ V1.out).mono ?_; rintro e v2 ⟨rfl, V2⟩; obtain ⟨k0, k1, k2, k3, k4, k5, k6, k7, k8, k9, k10⟩ := HS.out v2 V2.out) | (go_at_call 59; with_reducible refine (CC.out _ V2.out).mono ?_; rintro e v3 ⟨rfl, V3⟩; obtain ⟨k0, k1, k2, k3, k4, k5, k6, k7, k8, k9, k10⟩ := HS.out v3 V3.out))
  go_wp2
  go_ret
  exact ⟨rfl, btr HB.out V3.out⟩
theorem leastU1_any (M : Nat) (a b : Qt) (w : World) (hM : w.cell? ⟨M, 0, none⟩ = some (.func (.func 65) #[] #[])) (hs : M < w.heap.size) :
    Calls Tryz.prog 82 #[.agg #[.int .i64 a.pr, .int .u64 a.vo, .int .u64 a.su, .int .i64 a.sd, .int .i64 a.ru], .agg #[.int .i64 b.pr, .int .u64 b.vo, .int .u64 b.su, .int .i64 b.sd, .int .i64 b.ru], .pointer (some ⟨M, 0, none⟩)] w fun e w' => e = .returned (.int .i64 (cm3 (a.su) (b.su))) ∧ Below w.heap.size w w' := by
  obtain ⟨R, hR⟩ : ∃ R, w.heap.size = R := ⟨_, rfl⟩
  obtain ⟨W, hW⟩ : ∃ W, (w.alloc (.cells #[.int .i64 a.pr, .int .u64 a.vo, .int .u64 a.su, .int .i64 a.sd, .int .i64 a.ru] 57)).alloc (.cells #[.int .i64 b.pr, .int .u64 b.vo, .int .u64 b.su, .int .i64 b.sd, .int .i64 b.ru] 57) = W := ⟨_, rfl⟩
  have HB := hid (show Below w.heap.size w W from by rw [← hW]; exact btr (ball _ _) (ball _ _))
  have r1 : W.heap[R]? = some (.cells #[.int .i64 a.pr, .int .u64 a.vo, .int .u64 a.su, .int .i64 a.sd, .int .i64 a.ru] 57 (0, 0)) := by rw [← hW, ← hR]; exact row_on (World.alloc_heap_new _ _) (ball _ _)
  have r2 : W.heap[R + 1]? = some (.cells #[.int .i64 b.pr, .int .u64 b.vo, .int .u64 b.su, .int .i64 b.sd, .int .i64 b.ru] 57 (0, 0)) := by
    rw [← hW, ← hR]
    have := World.alloc_heap_new (w.alloc (.cells #[.int .i64 a.pr, .int .u64 a.vo, .int .u64 a.su, .int .i64 a.sd, .int .i64 a.ru] 57)) (.cells #[.int .i64 b.pr, .int .u64 b.vo, .int .u64 b.su, .int .i64 b.sd, .int .i64 b.ru] 57)
    simpa using this
  have HS := hid (show ∀ U, Below W.heap.size W U → U.cell? ⟨M, 0, none⟩ = some (.func (.func 65) #[] #[]) ∧ U.cell? ⟨R, 0, none⟩ = some (.int .i64 a.pr) ∧ U.cell? ⟨R, 1, none⟩ = some (.int .u64 a.vo) ∧ U.cell? ⟨R, 2, none⟩ = some (.int .u64 a.su) ∧ U.cell? ⟨R, 3, none⟩ = some (.int .i64 a.sd) ∧ U.cell? ⟨R, 4, none⟩ = some (.int .i64 a.ru) ∧ U.cell? ⟨R + 1, 0, none⟩ = some (.int .i64 b.pr) ∧ U.cell? ⟨R + 1, 1, none⟩ = some (.int .u64 b.vo) ∧ U.cell? ⟨R + 1, 2, none⟩ = some (.int .u64 b.su) ∧ U.cell? ⟨R + 1, 3, none⟩ = some (.int .i64 b.sd) ∧ U.cell? ⟨R + 1, 4, none⟩ = some (.int .i64 b.ru) from fun U hU => by
    obtain ⟨a0, a1, a2, a3, a4⟩ := row5 (row_on r1 hU)
    obtain ⟨b0, b1, b2, b3, b4⟩ := row5 (row_on r2 hU)
    exact ⟨((btr HB.out hU).cell (p := ⟨M, 0, none⟩) hs).trans hM, a0, a1, a2, a3, a4, b0, b1, b2, b3, b4⟩)
  have CA := hid (fun U (hU : Below W.heap.size W U) => on_b (decided1_any a U) hU)
  have CB := hid (fun U (hU : Below W.heap.size W U) => on_b (decided1_any b U) hU)
  have CC := hid (fun U (hU : Below W.heap.size W U) => on_b (cmpU_any (a.su) (b.su) U) hU)
  have HW := hid hW
  have HRR := hid hR
  clear hM hW hR r1 r2
  go_enter Tryz.func82, Tryz.ntmps82
  go_upto_region 1 with fail
  rw [HW.out, HRR.out]
  obtain ⟨k0, k1, k2, k3, k4, k5, k6, k7, k8, k9, k10⟩ := HS.out W (Below.refl _ _)
  go_region_held3 (fun U => U.cell? ⟨M, 0, none⟩ = some (.func (.func 65) #[] #[]) ∧ U.cell? ⟨R, 0, none⟩ = some (.int .i64 a.pr) ∧ U.cell? ⟨R, 1, none⟩ = some (.int .u64 a.vo) ∧ U.cell? ⟨R, 2, none⟩ = some (.int .u64 a.su) ∧ U.cell? ⟨R, 3, none⟩ = some (.int .i64 a.sd) ∧ U.cell? ⟨R, 4, none⟩ = some (.int .i64 a.ru) ∧ U.cell? ⟨R + 1, 0, none⟩ = some (.int .i64 b.pr) ∧ U.cell? ⟨R + 1, 1, none⟩ = some (.int .u64 b.vo) ∧ U.cell? ⟨R + 1, 2, none⟩ = some (.int .u64 b.su) ∧ U.cell? ⟨R + 1, 3, none⟩ = some (.int .i64 b.sd) ∧ U.cell? ⟨R + 1, 4, none⟩ = some (.int .i64 b.ru)) (go_keep) (first | (go_at_call 65; with_reducible refine (CA.out _ (bdrew1 W)).mono ?_; rintro e v1 ⟨rfl, V1⟩; obtain ⟨k0, k1, k2, k3, k4, k5, k6, k7, k8, k9, k10⟩ := HS.out v1 V1.out) | (go_at_call 65; with_reducible refine (CB.out _ V1.out).mono ?_; rintro e v2 ⟨rfl, V2⟩; obtain ⟨k0, k1, k2, k3, k4, k5, k6, k7, k8, k9, k10⟩ := HS.out v2 V2.out) | (go_at_call 59; with_reducible refine (CC.out _ V2.out).mono ?_; rintro e v3 ⟨rfl, V3⟩; obtain ⟨k0, k1, k2, k3, k4, k5, k6, k7, k8, k9, k10⟩ := HS.out v3 V3.out))
  go_wp2
  go_ret
  exact ⟨rfl, btr HB.out V3.out⟩
theorem leastI1_any (M : Nat) (Z : Nat) (r : Int) (a b : Qt) (w : World) (hM : w.cell? ⟨M, 0, none⟩ = some (.func (.func 68) #[] #[.pointer (some ⟨Z, 0, none⟩)])) (hs : M < w.heap.size) (hZ : w.cell? ⟨Z, 0, none⟩ = some (.int .i64 r)) (hz : Z < w.heap.size) (r0 : 0 ≤ r) (r1' : r < 262144) (a0 : 0 ≤ a.pr) (a1 : a.pr < 262144) (b0 : 0 ≤ b.pr) (b1 : b.pr < 262144) :
    Calls Tryz.prog 85 #[.agg #[.int .i64 a.pr, .int .u64 a.vo, .int .u64 a.su, .int .i64 a.sd, .int .i64 a.ru], .agg #[.int .i64 b.pr, .int .u64 b.vo, .int .u64 b.su, .int .i64 b.sd, .int .i64 b.ru], .pointer (some ⟨M, 0, none⟩)] w fun e w' => e = .returned (.int .i64 (cm3 (max (a.pr - r) (r - a.pr)) (max (b.pr - r) (r - b.pr)))) ∧ Below w.heap.size w w' := by
  obtain ⟨R, hR⟩ : ∃ R, w.heap.size = R := ⟨_, rfl⟩
  obtain ⟨W, hW⟩ : ∃ W, (w.alloc (.cells #[.int .i64 a.pr, .int .u64 a.vo, .int .u64 a.su, .int .i64 a.sd, .int .i64 a.ru] 57)).alloc (.cells #[.int .i64 b.pr, .int .u64 b.vo, .int .u64 b.su, .int .i64 b.sd, .int .i64 b.ru] 57) = W := ⟨_, rfl⟩
  have HB := hid (show Below w.heap.size w W from by rw [← hW]; exact btr (ball _ _) (ball _ _))
  have r1 : W.heap[R]? = some (.cells #[.int .i64 a.pr, .int .u64 a.vo, .int .u64 a.su, .int .i64 a.sd, .int .i64 a.ru] 57 (0, 0)) := by rw [← hW, ← hR]; exact row_on (World.alloc_heap_new _ _) (ball _ _)
  have r2 : W.heap[R + 1]? = some (.cells #[.int .i64 b.pr, .int .u64 b.vo, .int .u64 b.su, .int .i64 b.sd, .int .i64 b.ru] 57 (0, 0)) := by
    rw [← hW, ← hR]
    have := World.alloc_heap_new (w.alloc (.cells #[.int .i64 a.pr, .int .u64 a.vo, .int .u64 a.su, .int .i64 a.sd, .int .i64 a.ru] 57)) (.cells #[.int .i64 b.pr, .int .u64 b.vo, .int .u64 b.su, .int .i64 b.sd, .int .i64 b.ru] 57)
    simpa using this
  have HS := hid (show ∀ U, Below W.heap.size W U → U.cell? ⟨M, 0, none⟩ = some (.func (.func 68) #[] #[.pointer (some ⟨Z, 0, none⟩)]) ∧ U.cell? ⟨R, 0, none⟩ = some (.int .i64 a.pr) ∧ U.cell? ⟨R, 1, none⟩ = some (.int .u64 a.vo) ∧ U.cell? ⟨R, 2, none⟩ = some (.int .u64 a.su) ∧ U.cell? ⟨R, 3, none⟩ = some (.int .i64 a.sd) ∧ U.cell? ⟨R, 4, none⟩ = some (.int .i64 a.ru) ∧ U.cell? ⟨R + 1, 0, none⟩ = some (.int .i64 b.pr) ∧ U.cell? ⟨R + 1, 1, none⟩ = some (.int .u64 b.vo) ∧ U.cell? ⟨R + 1, 2, none⟩ = some (.int .u64 b.su) ∧ U.cell? ⟨R + 1, 3, none⟩ = some (.int .i64 b.sd) ∧ U.cell? ⟨R + 1, 4, none⟩ = some (.int .i64 b.ru) from fun U hU => by
    obtain ⟨a0, a1, a2, a3, a4⟩ := row5 (row_on r1 hU)
    obtain ⟨b0, b1, b2, b3, b4⟩ := row5 (row_on r2 hU)
    exact ⟨((btr HB.out hU).cell (p := ⟨M, 0, none⟩) hs).trans hM, a0, a1, a2, a3, a4, b0, b1, b2, b3, b4⟩)
  have CA := hid (fun U (hU : Below W.heap.size W U) => on_b (decided2_any Z r a U (((btr HB.out hU).cell (p := ⟨Z, 0, none⟩) hz).trans hZ) (Nat.lt_of_lt_of_le hz (btr HB.out hU).size) r0 r1' a0 a1) hU)
  have CB := hid (fun U (hU : Below W.heap.size W U) => on_b (decided2_any Z r b U (((btr HB.out hU).cell (p := ⟨Z, 0, none⟩) hz).trans hZ) (Nat.lt_of_lt_of_le hz (btr HB.out hU).size) r0 r1' b0 b1) hU)
  have CC := hid (fun U (hU : Below W.heap.size W U) => on_b (cmpI_any (max (a.pr - r) (r - a.pr)) (max (b.pr - r) (r - b.pr)) U) hU)
  have HW := hid hW
  have HRR := hid hR
  clear hM hW hR r1 r2
  go_enter Tryz.func85, Tryz.ntmps85
  go_upto_region 1 with fail
  rw [HW.out, HRR.out]
  obtain ⟨k0, k1, k2, k3, k4, k5, k6, k7, k8, k9, k10⟩ := HS.out W (Below.refl _ _)
  go_region_held3 (fun U => U.cell? ⟨M, 0, none⟩ = some (.func (.func 68) #[] #[.pointer (some ⟨Z, 0, none⟩)]) ∧ U.cell? ⟨R, 0, none⟩ = some (.int .i64 a.pr) ∧ U.cell? ⟨R, 1, none⟩ = some (.int .u64 a.vo) ∧ U.cell? ⟨R, 2, none⟩ = some (.int .u64 a.su) ∧ U.cell? ⟨R, 3, none⟩ = some (.int .i64 a.sd) ∧ U.cell? ⟨R, 4, none⟩ = some (.int .i64 a.ru) ∧ U.cell? ⟨R + 1, 0, none⟩ = some (.int .i64 b.pr) ∧ U.cell? ⟨R + 1, 1, none⟩ = some (.int .u64 b.vo) ∧ U.cell? ⟨R + 1, 2, none⟩ = some (.int .u64 b.su) ∧ U.cell? ⟨R + 1, 3, none⟩ = some (.int .i64 b.sd) ∧ U.cell? ⟨R + 1, 4, none⟩ = some (.int .i64 b.ru)) (go_keep) (first | (go_at_call 68; with_reducible refine (CA.out _ (bdrew1 W)).mono ?_; rintro e v1 ⟨rfl, V1⟩; obtain ⟨k0, k1, k2, k3, k4, k5, k6, k7, k8, k9, k10⟩ := HS.out v1 V1.out) | (go_at_call 68; with_reducible refine (CB.out _ V1.out).mono ?_; rintro e v2 ⟨rfl, V2⟩; obtain ⟨k0, k1, k2, k3, k4, k5, k6, k7, k8, k9, k10⟩ := HS.out v2 V2.out) | (go_at_call 86; with_reducible refine (CC.out _ V2.out).mono ?_; rintro e v3 ⟨rfl, V3⟩; obtain ⟨k0, k1, k2, k3, k4, k5, k6, k7, k8, k9, k10⟩ := HS.out v3 V3.out))
  go_wp2
  go_ret
  exact ⟨rfl, btr HB.out V3.out⟩
end Go.Proofs.YtnmkfdndfhefiaaGreat
