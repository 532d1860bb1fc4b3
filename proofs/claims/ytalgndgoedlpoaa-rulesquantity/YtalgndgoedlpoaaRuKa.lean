/-
  Books that are told are compared.
-/
import Derived.Test.YtalgndgoedlpoaaRuNu
namespace Go.Proofs.Ytalgndgoedlpoaa
open Go.RowKit Go.Deep Go.Shelf
set_option linter.unusedVariables false
set_option linter.unusedSimpArgs false
set_option maxHeartbeats 8000000
set_option maxRecDepth 100000
/-- an order's cells in a slice of orders. -/
theorem or_cells {base : Nat} {w : World} {v : Value} {os : List Or} (h : w.ownsRow base 50 7 v os.length (ors os)) {i : Nat} (hi : i < os.length) : ∃ g c, v = .slice (some ⟨g, 0, none⟩) os.length c ∧ os.length ≤ maxLen ∧ w.cell? ⟨g, i * 7, none⟩ = some (.int .u64 os[i].id) ∧ w.cell? ⟨g, i * 7 + 1, none⟩ = some (.int .u32 os[i].mb) ∧ w.cell? ⟨g, i * 7 + 2, none⟩ = some (.int .i64 os[i].ty) ∧ w.cell? ⟨g, i * 7 + 3, none⟩ = some (.int .i64 os[i].pr) ∧ w.cell? ⟨g, i * 7 + 4, none⟩ = some (.int .u64 os[i].vi) ∧ w.cell? ⟨g, i * 7 + 5, none⟩ = some (.int .u64 os[i].hi) ∧ w.cell? ⟨g, i * 7 + 6, none⟩ = some (.int .u64 os[i].pk) := by
  obtain ⟨h1, ⟨e, e2⟩ | ⟨g, c', cur, e, r1, r2, r3, r4, r5, r6⟩⟩ := h
  · omega
  · have go : ∀ j, j < 7 → w.cell? ⟨g, i * 7 + j, none⟩ = (orow os[i]).toList[j]? := fun j hj => by
      have := congrArg (fun z => z[i * 7 + j]?) r6
      have hlt : i * 7 + j < os.length * 7 := by omega
      simp only [List.getElem?_take, hlt, if_true, Array.getElem?_toList] at this
      rw [row_cell r2, this, ors_get hi hj]
    exact ⟨g, c', e, Nat.le_trans r3 r4, go 0 (by omega), go 1 (by omega), go 2 (by omega), go 3 (by omega), go 4 (by omega), go 5 (by omega), go 6 (by omega)⟩
theorem orders_same (p p2 : Option Addr) (c c2 : Nat) (os : List Or) (w : World) (h : w.ownsRow 0 50 7 (.slice p os.length c) os.length (ors os)) (h2 : w.ownsRow 0 50 7 (.slice p2 os.length c2) os.length (ors os)) :
    Calls Try.prog 41 #[.slice p os.length c, .slice p2 os.length c2] w fun e w' => e = .returned (.bool true) ∧ Below w.heap.size w w' := by
  obtain ⟨n, hn⟩ : ∃ n, os.length = n := ⟨_, rfl⟩
  have HN := hid hn
  have H1 := hid h
  have H2 := hid h2
  rw [hn]
  clear hn h h2
  go_enter Try.func41, Try.ntmps41
  go_wp2_with fail
  go_loopw [5] (fun iv wr => ∃ i : Nat, i ≤ n ∧ iv = .int .i64 i ∧ Hid (Below w.heap.size w wr)) (fun iv _ => n - (intOf iv).toNat)
  case atStart => exact ⟨0, Nat.zero_le _, rfl, hid (Below.refl _ _)⟩
  case round =>
    obtain ⟨i, hin, rfl, HB⟩ := hrel
    by_cases hlt : i < n
    · have hil : i < os.length := by rw [HN.out]; exact hlt
      obtain ⟨g, cc, hp, hmx, a0, a1, a2, a3, a4, a5, a6⟩ := or_cells (own_on H1.out HB.out) hil
      obtain ⟨g2, cc2, hp2, _, b0, b1, b2, b3, b4, b5, b6⟩ := or_cells (own_on H2.out HB.out) hil
      have e1 := (Value.slice.inj hp).1
      have e2 := (Value.slice.inj hp2).1
      subst e1
      subst e2
      rw [HN.out] at hmx
      have hmx' : n < 9223372036854775808 := by unfold maxLen at hmx; omega
      obtain ⟨z, hz⟩ : ∃ z, os[i] = z := ⟨_, rfl⟩
      rw [hz] at a0 a1 a2 a3 a4 a5 a6 b0 b1 b2 b3 b4 b5 b6
      have i0' : (0 : Int) ≤ (i : Int) := by omega
      have i1 : (i : Int) < (n : Int) := by omega
      clear hp hp2 hmx hz
      go_wp2_with fail
      go_region
      go_wp2
      go_roundw
      case rel => exact ⟨i + 1, by omega, by go_num, hid (btr HB.out (bdrew1 _))⟩
      case measure => simp [intOf]; omega
    · obtain rfl : i = n := by omega
      go_wp2
      go_ret
      exact ⟨rfl, HB.out⟩
theorem books_same (b : Bs) (os1 os2 : List Or) (v1 v2 u1 u2 : Value) (w : World) (h1 : w.ownsRow 0 50 7 v1 os1.length (ors os1)) (h2 : w.ownsRow 0 50 7 v2 os2.length (ors os2)) (k1 : w.ownsRow 0 50 7 u1 os1.length (ors os1)) (k2 : w.ownsRow 0 50 7 u2 os2.length (ors os2)) :
    Calls Try.prog 18 #[.agg (bkv b v1 v2), .agg (bkv b u1 u2)] w fun e w' => e = .returned (.bool true) ∧ Below w.heap.size w w' := by
  obtain ⟨p1, c1, rfl⟩ := own_form h1
  obtain ⟨p2, c2, rfl⟩ := own_form h2
  obtain ⟨q1, d1, rfl⟩ := own_form k1
  obtain ⟨q2, d2, rfl⟩ := own_form k2
  obtain ⟨W, hW⟩ : ∃ W, (w.alloc (.cells (bkv b (.slice p1 os1.length c1) (.slice p2 os2.length c2)) 32)).alloc (.cells (bkv b (.slice q1 os1.length d1) (.slice q2 os2.length d2)) 32) = W := ⟨_, rfl⟩
  obtain ⟨R, hR⟩ : ∃ R, w.heap.size = R := ⟨_, rfl⟩
  have hb : Below w.heap.size w W := by rw [← hW]; exact btr (ball _ _) (ball _ _)
  have r1 : W.heap[R]? = some (.cells (bkv b (.slice p1 os1.length c1) (.slice p2 os2.length c2)) 32 (0, 0)) := by rw [← hW, ← hR]; exact row_on (World.alloc_heap_new _ _) (ball _ _)
  have r2 : W.heap[R + 1]? = some (.cells (bkv b (.slice q1 os1.length d1) (.slice q2 os2.length d2)) 32 (0, 0)) := by
    have := World.alloc_heap_new (w.alloc (.cells (bkv b (.slice p1 os1.length c1) (.slice p2 os2.length c2)) 32)) (.cells (bkv b (.slice q1 os1.length d1) (.slice q2 os2.length d2)) 32)
    rw [hW] at this
    rw [← hR]
    simpa using this
  have CO1 := hid (fun (U : World) (hU : Below W.heap.size W U) => orders_same p1 q1 c1 d1 os1 U (own_on (own_on h1 hb) hU) (own_on (own_on k1 hb) hU))
  have CO2 := hid (fun (U : World) (hU : Below W.heap.size W U) => orders_same p2 q2 c2 d2 os2 U (own_on (own_on h2 hb) hU) (own_on (own_on k2 hb) hU))
  have HCE := hid (fun (U : World) (hU : Below W.heap.size W U) => (show (U.cell? ⟨R, 0, none⟩ = some (.int .i64 b.cap) ∧ U.cell? ⟨R, 1, none⟩ = some (.int .i64 b.meet) ∧ U.cell? ⟨R, 2, none⟩ = some (.slice p1 os1.length c1) ∧ U.cell? ⟨R, 3, none⟩ = some (.slice p2 os2.length c2) ∧ U.cell? ⟨R, 4, none⟩ = some (.int .u64 b.high) ∧ U.cell? ⟨R, 5, none⟩ = some (.int .u64 b.seq)) ∧ (U.cell? ⟨R + 1, 0, none⟩ = some (.int .i64 b.cap) ∧ U.cell? ⟨R + 1, 1, none⟩ = some (.int .i64 b.meet) ∧ U.cell? ⟨R + 1, 2, none⟩ = some (.slice q1 os1.length d1) ∧ U.cell? ⟨R + 1, 3, none⟩ = some (.slice q2 os2.length d2) ∧ U.cell? ⟨R + 1, 4, none⟩ = some (.int .u64 b.high) ∧ U.cell? ⟨R + 1, 5, none⟩ = some (.int .u64 b.seq)) from by
    have a := row_on r1 hU
    have c := row_on r2 hU
    have a0 := row_cell a 0
    have a1 := row_cell a 1
    have a2 := row_cell a 2
    have a3 := row_cell a 3
    have a4 := row_cell a 4
    have a5 := row_cell a 5
    have c0 := row_cell c 0
    have c1 := row_cell c 1
    have c2 := row_cell c 2
    have c3 := row_cell c 3
    have c4 := row_cell c 4
    have c5 := row_cell c 5
    simp only [bkv, List.getElem?_toArray, List.getElem?_cons_succ, List.getElem?_cons_zero] at a0 a1 a2 a3 a4 a5 c0 c1 c2 c3 c4 c5
    exact ⟨⟨a0, a1, a2, a3, a4, a5⟩, c0, c1, c2, c3, c4, c5⟩))
  have HW := hid hW
  have HRR := hid hR
  have HB := hid hb
  clear hW hR hb r1 r2 h1 h2 k1 k2
  unfold bkv at HW ⊢
  go_enter Try.func18, Try.ntmps18
  go_upto_region 1 with fail
  have e1 := HW.out
  have e0 := HRR.out
  rw [e1, e0]
  clear e0 e1
  obtain ⟨⟨a0, a1, a2, a3, a4, a5⟩, c0, c1, c2, c3, c4, c5⟩ := HCE.out W (Below.refl _ _)
  go_wp2_with (first | (go_at_call 41; with_reducible refine (CO1.out W (Below.refl _ _)).mono ?_; rintro e w1 ⟨rfl, hb1⟩; have HB1 := hid hb1; obtain ⟨⟨f0, f1, f2, f3, f4, f5⟩, g0, g1, g2, g3, g4, g5⟩ := HCE.out w1 hb1; clear hb1) | (go_at_call 41; with_reducible refine (CO2.out w1 HB1.out).mono ?_; rintro e w2 ⟨rfl, hb2⟩; have HB2 := hid (btr HB1.out hb2); clear hb2))
  go_ret
  exact ⟨rfl, btr HB.out HB2.out⟩
end Go.Proofs.Ytalgndgoedlpoaa
