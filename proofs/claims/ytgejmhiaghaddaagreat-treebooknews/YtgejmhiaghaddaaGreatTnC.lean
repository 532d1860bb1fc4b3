/-
  Valid, of a book without orders: distinct, and the whole.
-/
import Derived.Test.YtgejmhiaghaddaaGreatTnB
namespace Go.Proofs.YtgejmhiaghaddaaGreat
open Go.RowKit Go.Deep
set_option linter.unusedVariables false
set_option linter.unusedSimpArgs false
set_option maxHeartbeats 4000000
set_option maxRecDepth 100000
theorem distinct_none (b c : Nat) (w : World) (h : w.heap[b]? = some (.cells #[.slice none 0 0, .slice none 0 0] 28 (0, 0))) : Calls Tryz.prog 47 #[.slice (some ⟨b, 0, none⟩) 2 c] w fun e w' => e = .returned (.bool true) ∧ Below w.heap.size w w' := by
  have CS := hid (fun U => sort_none U)
  have CC := hid (fun U => compact_none U)
  have HH := hid h
  clear h
  go_enter Tryz.func47, Tryz.ntmps47
  go_wp2
  go_loopw [3, 10] (fun v iv wr => v = .slice none 0 0 ∧ (iv = .int .i64 0 ∨ iv = .int .i64 1 ∨ iv = .int .i64 2) ∧ Hid (Below w.heap.size w wr)) (fun _ iv _ => 2 - (intOf iv).toNat)
  case atStart => exact ⟨rfl, .inl rfl, hid (Below.refl _ _)⟩
  case round =>
    obtain ⟨rfl, rfl | rfl | rfl, HB⟩ := hrel
    · have c0 := row_cell (row_on HH.out HB.out) 0
      simp only [List.getElem?_toArray, List.getElem?_cons_succ, List.getElem?_cons_zero] at c0
      go_wp2
      go_loopw [3, 16] (fun v iv wr2 => v = .slice none 0 0 ∧ iv = .int .i64 0 ∧ Hid (Below w.heap.size w wr2)) (fun _ iv _ => 2 - (intOf iv).toNat)
      case atStart => exact ⟨rfl, rfl, HB⟩
      case round =>
        obtain ⟨rfl, rfl, HB2⟩ := hrel
        go_wp2
        go_roundw
        case rel => exact ⟨rfl, .inr (.inl (by go_num)), HB2⟩
        case measure => simp [intOf]
    · have c0 := row_cell (row_on HH.out HB.out) 1
      simp only [List.getElem?_toArray, List.getElem?_cons_succ, List.getElem?_cons_zero] at c0
      go_wp2
      go_loopw [3, 16] (fun v iv wr2 => v = .slice none 0 0 ∧ iv = .int .i64 0 ∧ Hid (Below w.heap.size w wr2)) (fun _ iv _ => 2 - (intOf iv).toNat)
      case atStart => exact ⟨rfl, rfl, HB⟩
      case round =>
        obtain ⟨rfl, rfl, HB2⟩ := hrel
        go_wp2
        go_roundw
        case rel => exact ⟨rfl, .inr (.inr (by go_num)), HB2⟩
        case measure => simp [intOf]
    · go_wp2_with (first | (go_at_call 67; with_reducible refine (CS.out _).mono ?_; rintro e w1 ⟨rfl, hb1⟩; have HB1 := hid hb1; clear hb1) | (go_at_call 68; with_reducible refine (CC.out _).mono ?_; rintro e w2 ⟨rfl, hb2⟩; have HB2 := hid hb2; clear hb2))
      go_ret
      exact ⟨rfl, btr (btr HB.out HB1.out) HB2.out⟩
theorem row6 {w : World} {g : Nat} {t : TypeId} {a0 a1 a2 a3 a4 a5 : Value} (h : w.heap[g]? = some (.cells #[a0, a1, a2, a3, a4, a5] t (0, 0))) : w.cell? ⟨g, 0, none⟩ = some a0 ∧ w.cell? ⟨g, 1, none⟩ = some a1 ∧ w.cell? ⟨g, 2, none⟩ = some a2 ∧ w.cell? ⟨g, 3, none⟩ = some a3 ∧ w.cell? ⟨g, 4, none⟩ = some a4 ∧ w.cell? ⟨g, 5, none⟩ = some a5 :=
  ⟨row_cell h 0, row_cell h 1, row_cell h 2, row_cell h 3, row_cell h 4, row_cell h 5⟩
theorem valid_none (cap meet : Int) (w : World) (v : Bool) (hv : cfg cap meet = v) (hc : v = true → 1 ≤ cap) : Calls Tryz.prog 26 #[.agg #[.int .i64 cap, .int .i64 meet, .slice none 0 0, .slice none 0 0, .int .u64 0, .int .u64 0]] w fun e w' => e = .returned (.int .i64 (if v then 0 else 120)) ∧ Below w.heap.size w w' := by
  have CA := hid (fun U => can_any cap meet U)
  rw [hv] at CA
  clear hv
  have CP := hid (fun s U => inPriority_none s U)
  have CX := hid (fun U => crossed_none cap meet U)
  have CO := hid (fun h U => ordersCanBe_none h U)
  have CD := hid (fun b c U h => distinct_none b c U h)
  obtain ⟨R, hR⟩ : ∃ R, w.heap.size = R := ⟨_, rfl⟩
  obtain ⟨W, hW⟩ : ∃ U, w.alloc (.cells #[.int .i64 cap, .int .i64 meet, .slice none 0 0, .slice none 0 0, .int .u64 0, .int .u64 0] 31) = U := ⟨_, rfl⟩
  have b0 : Below w.heap.size w W := by rw [← hW]; exact ball _ _
  have HBW := hid b0
  have HR0 := hid (show W.heap[R]? = some (.cells #[.int .i64 cap, .int .i64 meet, .slice none 0 0, .slice none 0 0, .int .u64 0, .int .u64 0] 31 (0, 0)) from (by rw [← hW, ← hR]; exact World.alloc_heap_new _ _))
  have HW := hid hW
  have HRR := hid hR
  clear hR hW  b0
  have HS0 := hid (fun (U : World) (hU : Below W.heap.size W U) => row6 (row_on HR0.out hU))
  obtain ⟨k_0, k_1, k_2, k_3, k_4, k_5⟩ := row6 HR0.out
  cases v with
  | false =>
    go_enter Tryz.func26, Tryz.ntmps26
    go_upto_region 1 with fail
    rw [HW.out, HRR.out]
    go_wp2_with (go_at_call 43; with_reducible refine (CA.out _).mono ?_; rintro e w1 ⟨rfl, hb1⟩; have HB1 := hid hb1; clear hb1)
    go_ret
    exact ⟨rfl, btr HBW.out HB1.out⟩
  | true =>
    have hc1 : decide (cap < 0) = false := by have := hc rfl; simp; omega
    clear hc
    go_enter Tryz.func26, Tryz.ntmps26
    go_upto_region 1 with fail
    rw [HW.out, HRR.out]
    go_upto_region 3 with (go_at_call 43; with_reducible refine (CA.out _).mono ?_; rintro e w1 ⟨rfl, hb1⟩; have HB1 := hid hb1; clear hb1 k_0 k_1 k_2 k_3 k_4 k_5; obtain ⟨k_0, k_1, k_2, k_3, k_4, k_5⟩ := HS0.out _ HB1.out)
    go_upto_region 4 with (first | (go_at_call 44; with_reducible refine (CP.out _ _).mono ?_; rintro e w1 ⟨rfl, hb1⟩; have HB1 := hid (btr HB1.out hb1); clear hb1 k_0 k_1 k_2 k_3 k_4 k_5; obtain ⟨k_0, k_1, k_2, k_3, k_4, k_5⟩ := HS0.out _ HB1.out) | (go_at_call 45; with_reducible refine (CX.out _).mono ?_; rintro e w1 ⟨rfl, hb1⟩; have HB1 := hid (btr HB1.out hb1); clear hb1 k_0 k_1 k_2 k_3 k_4 k_5; obtain ⟨k_0, k_1, k_2, k_3, k_4, k_5⟩ := HS0.out _ HB1.out))
    go_wp2_with (first | (go_at_call 46; with_reducible refine (CO.out _ _).mono ?_; rintro e w1 ⟨rfl, hb1⟩; have HB1 := hid (btr HB1.out hb1); clear hb1 k_0 k_1 k_2 k_3 k_4 k_5; obtain ⟨k_0, k_1, k_2, k_3, k_4, k_5⟩ := HS0.out _ HB1.out) | (go_at_call 47; with_reducible refine (CD.out _ _ _ (World.alloc_heap_new _ _)).mono ?_; rintro e w1 ⟨rfl, hb1⟩; have HB1 := hid (btr HB1.out (btr (ball _ _) hb1)); clear hb1))
    go_ret
    exact ⟨rfl, btr HBW.out HB1.out⟩
end Go.Proofs.YtgejmhiaghaddaaGreat
