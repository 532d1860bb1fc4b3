/-
  What a book keeps, told. Written by mkz.py.
-/
import Derived.Test.YthdikkchblmebaaRuZ
import Derived.Deep.DrawnRows
namespace Go.Proofs.Ythdikkchblmebaa
open Go.RowKit Go.Deep Go.Shelf
set_option linter.unusedVariables false
set_option linter.unusedSimpArgs false
set_option maxHeartbeats 4000000
set_option maxRecDepth 100000
attribute [local go_sem ↓] Go.wp_at_zero Go.wp_at_succ
/-- a book as it is told. -/
def bkv (b : Bs) (v1 v2 : Value) : Array Value := #[.int .i64 b.cap, .int .i64 b.meet, v1, v2, .int .u64 b.high, .int .u64 b.seq]
def osl (l : LO) : List Or := l.map (·.2)
theorem bm_cells {w : World} {B : Nat} {b : Bs} (h : Bm w B b) : ((fun U => U.cell? ⟨B, 0, none⟩ = some (.int .i64 b.cap) ∧ U.cell? ⟨B, 1, none⟩ = some (.int .i64 b.meet) ∧ U.cell? ⟨B, 2, none⟩ = some (.slice b.p1 b.l1.length b.c1) ∧ U.cell? ⟨B, 3, none⟩ = some (.slice b.p2 b.l2.length b.c2) ∧ U.cell? ⟨B, 4, none⟩ = some (.int .u64 b.high) ∧ U.cell? ⟨B, 5, none⟩ = some (.int .u64 b.seq))) w := by
  have hr := h.row
  have a0 := row_cell hr 0
  have a1 := row_cell hr 1
  have a2 := row_cell hr 2
  have a3 := row_cell hr 3
  have a4 := row_cell hr 4
  have a5 := row_cell hr 5
  simp only [Bs.row, List.getElem?_toArray, List.getElem?_cons_succ, List.getElem?_cons_zero] at a0 a1 a2 a3 a4 a5
  exact ⟨a0, a1, a2, a3, a4, a5⟩
theorem book_any (B : Nat) (b : Bs) (w : World) (h : Bm w B b) (hn : b.l1.length + b.l2.length ≤ 1048576) :
    Calls Try.prog 12 #[.pointer (some ⟨B, 0, none⟩)] w fun e w' => ∃ v1 v2, e = .returned (.agg (bkv b v1 v2)) ∧ w'.ownsRow w.heap.size 53 7 v1 b.l1.length (ors (osl b.l1)) ∧ w'.ownsRow w.heap.size 53 7 v2 b.l2.length (ors (osl b.l2)) ∧ Below w.heap.size w w' := by
  obtain ⟨R, hR⟩ : ∃ R, w.heap.size = R := ⟨_, rfl⟩
  obtain ⟨W, hW⟩ : ∃ W, w.alloc (.cells #[.int .i64 0, .int .i64 0, .slice none 0 0, .slice none 0 0, .int .u64 0, .int .u64 0] 30) = W := ⟨_, rfl⟩
  have hb : Below w.heap.size w W := by rw [← hW]; exact ball _ _
  have hx : W.heap[R]? = some (.cells #[.int .i64 0, .int .i64 0, .slice none 0 0, .slice none 0 0, .int .u64 0, .int .u64 0] 30 (0, 0)) := by rw [← hW, ← hR]; exact World.alloc_heap_new _ _
  have HW := hid hW
  have HBW := hid hb
  have HX := hid hx
  have HM := hid (h.on hb)
  have CO1 := hid (fun (U : World) (hU : Below W.heap.size W U) => orders_any b.p1 b.c1 b.l1 U ((h.on hb).on hU).li1 (by omega))
  have CO2 := hid (fun (U : World) (hU : Below W.heap.size W U) => orders_any b.p2 b.c2 b.l2 U ((h.on hb).on hU).li2 (by omega))
  have HSS := hid (fun (U : World) (hU : Below W.heap.size W U) => bm_cells ((h.on hb).on hU))
  have HRR := hid hR
  clear hW hb hx h hR
  go_enter Try.func12, Try.ntmps12
  go_upto_region 1 with fail
  have e1 := HRR.out
  rw [e1]
  clear e1
  have e0 := HW.out
  rw [e0]
  clear e0
  refine wp_region_held_drew (S := (fun U => U.cell? ⟨B, 0, none⟩ = some (.int .i64 b.cap) ∧ U.cell? ⟨B, 1, none⟩ = some (.int .i64 b.meet) ∧ U.cell? ⟨B, 2, none⟩ = some (.slice b.p1 b.l1.length b.c1) ∧ U.cell? ⟨B, 3, none⟩ = some (.slice b.p2 b.l2.length b.c2) ∧ U.cell? ⟨B, 4, none⟩ = some (.int .u64 b.high) ∧ U.cell? ⟨B, 5, none⟩ = some (.int .u64 b.seq))) (by kernel_rfl) ?_ (fun hHeld => ?_)
  · (try dsimp only); (exact HSS.out _ (bdrew1 _))
  refine' wpAnyH_take (i := 0) (oi := _) (v := _) rfl (by kernel_rfl) (by kernel_rfl) (by kernel_rfl) (fun _ _ _ h => h) (Or.inl ⟨by kernel_rfl, ?hyq1⟩) (by assumption) ?restq1
  case hyq1 => (intro w hSw; (try dsimp only at hSw); go_simp; try (with_reducible rfl))
  try simp only [List.getElem_toArray, List.getElem_cons_succ, List.getElem_cons_zero, Act.put, List.setIfInBounds_toArray, List.set_cons_zero, List.set_cons_succ]
  refine' wpAnyH_take (i := 1) (oi := _) (v := _) rfl (by kernel_rfl) (by kernel_rfl) (by kernel_rfl) (fun _ _ _ h => h) (Or.inl ⟨by kernel_rfl, ?hyq2⟩) (by assumption) ?restq2
  case hyq2 => (intro w hSw; (try dsimp only at hSw); go_simp; try (with_reducible rfl))
  try simp only [List.getElem_toArray, List.getElem_cons_succ, List.getElem_cons_zero, Act.put, List.setIfInBounds_toArray, List.set_cons_zero, List.set_cons_succ]
  refine' wpAnyH_take (i := 2) (oi := _) (v := _) rfl (by kernel_rfl) (by kernel_rfl) (by kernel_rfl) (fun _ _ _ h => h) (Or.inl ⟨by kernel_rfl, ?hyq3⟩) (by assumption) ?restq3
  case hyq3 => (intro w hSw; (try dsimp only at hSw); go_simp; try (with_reducible rfl))
  try simp only [List.getElem_toArray, List.getElem_cons_succ, List.getElem_cons_zero, Act.put, List.setIfInBounds_toArray, List.set_cons_zero, List.set_cons_succ]
  refine' wpAnyH_take (i := 3) (oi := _) (v := _) rfl (by kernel_rfl) (by kernel_rfl) (by kernel_rfl) (fun _ _ _ h => h) (Or.inl ⟨by kernel_rfl, ?hyq4⟩) (by assumption) ?restq4
  case hyq4 => (intro w hSw; (try dsimp only at hSw); go_simp; try (with_reducible rfl))
  try simp only [List.getElem_toArray, List.getElem_cons_succ, List.getElem_cons_zero, Act.put, List.setIfInBounds_toArray, List.set_cons_zero, List.set_cons_succ]
  refine' wpAnyH_take (i := 4) (oi := _) (v := _) rfl (by kernel_rfl) (by kernel_rfl) (by kernel_rfl) (fun _ _ _ h => h) (Or.inl ⟨by kernel_rfl, ?hyq5⟩) (by assumption) ?restq5
  case hyq5 => (intro w hSw; (try dsimp only at hSw); go_simp; try (with_reducible rfl))
  try simp only [List.getElem_toArray, List.getElem_cons_succ, List.getElem_cons_zero, Act.put, List.setIfInBounds_toArray, List.set_cons_zero, List.set_cons_succ]
  refine' wpAnyH_take (i := 5) (oi := _) (v := _) rfl (by kernel_rfl) (by kernel_rfl) (by kernel_rfl) (fun _ _ _ h => h) (Or.inl ⟨by kernel_rfl, ?hyq6⟩) (by assumption) ?restq6
  case hyq6 => (intro w hSw; (try dsimp only at hSw); go_simp; try (with_reducible rfl))
  try simp only [List.getElem_toArray, List.getElem_cons_succ, List.getElem_cons_zero, Act.put, List.setIfInBounds_toArray, List.set_cons_zero, List.set_cons_succ]
  refine' wpAnyH_take (i := 6) (oi := _) (v := _) rfl (by kernel_rfl) (by kernel_rfl) (by kernel_rfl) (fun _ _ _ h => h) (Or.inl ⟨by kernel_rfl, ?hyq7⟩) (by assumption) ?restq7
  case hyq7 => (intro w hSw; (try dsimp only at hSw); go_simp; try (with_reducible rfl))
  try simp only [List.getElem_toArray, List.getElem_cons_succ, List.getElem_cons_zero, Act.put, List.setIfInBounds_toArray, List.set_cons_zero, List.set_cons_succ]
  refine' wpAnyH_take (i := 7) (oi := _) (v := _) rfl (by kernel_rfl) (by kernel_rfl) (by kernel_rfl) (fun _ _ _ h => h) (Or.inl ⟨by kernel_rfl, ?hyq8⟩) (by assumption) ?restq8
  case hyq8 => (intro w hSw; (try dsimp only at hSw); go_simp; try (with_reducible rfl))
  try simp only [List.getElem_toArray, List.getElem_cons_succ, List.getElem_cons_zero, Act.put, List.setIfInBounds_toArray, List.set_cons_zero, List.set_cons_succ]
  refine' wpAnyH_take (i := 8) (oi := _) (v := _) rfl (by kernel_rfl) (by kernel_rfl) (by kernel_rfl) (fun _ _ _ h => h) (Or.inl ⟨by kernel_rfl, ?hyq9⟩) (by assumption) ?restq9
  case hyq9 => (intro w hSw; (try dsimp only at hSw); go_simp; try (with_reducible rfl))
  try simp only [List.getElem_toArray, List.getElem_cons_succ, List.getElem_cons_zero, Act.put, List.setIfInBounds_toArray, List.set_cons_zero, List.set_cons_succ]
  refine' wpAnyH_take (i := 10) (oi := _) (v := _) rfl (by kernel_rfl) (by kernel_rfl) (by kernel_rfl) (fun _ _ _ h => h) (Or.inl ⟨by kernel_rfl, ?hyq10⟩) (by assumption) ?restq10
  case hyq10 => (intro w hSw; (try dsimp only at hSw); go_simp; try (with_reducible rfl))
  try simp only [List.getElem_toArray, List.getElem_cons_succ, List.getElem_cons_zero, Act.put, List.setIfInBounds_toArray, List.set_cons_zero, List.set_cons_succ]
  refine' wpAnyH_take (i := 11) (oi := _) (v := _) rfl (by kernel_rfl) (by kernel_rfl) (by kernel_rfl) (fun _ _ _ h => h) (Or.inl ⟨by kernel_rfl, ?hyq11⟩) (by assumption) ?restq11
  case hyq11 => (intro w hSw; (try dsimp only at hSw); go_simp; try (with_reducible rfl))
  try simp only [List.getElem_toArray, List.getElem_cons_succ, List.getElem_cons_zero, Act.put, List.setIfInBounds_toArray, List.set_cons_zero, List.set_cons_succ]
  refine' wpAnyH_take (i := 12) (oi := _) (v := _) rfl (by kernel_rfl) (by kernel_rfl) (by kernel_rfl) (fun _ _ _ h => h) (Or.inl ⟨by kernel_rfl, ?hyq12⟩) (by assumption) ?restq12
  case hyq12 => (intro w hSw; (try dsimp only at hSw); go_simp; try (with_reducible rfl))
  try simp only [List.getElem_toArray, List.getElem_cons_succ, List.getElem_cons_zero, Act.put, List.setIfInBounds_toArray, List.set_cons_zero, List.set_cons_succ]
  refine' wpAnyH_take (i := 13) (oi := _) (v := _) rfl (by kernel_rfl) (by kernel_rfl) (by kernel_rfl) (fun _ _ _ h => h) (Or.inl ⟨by kernel_rfl, ?hyq13⟩) (by assumption) ?restq13
  case hyq13 => (intro w hSw; (try dsimp only at hSw); go_simp; try (with_reducible rfl))
  try simp only [List.getElem_toArray, List.getElem_cons_succ, List.getElem_cons_zero, Act.put, List.setIfInBounds_toArray, List.set_cons_zero, List.set_cons_succ]
  refine' wpAnyH_take (i := 14) (oi := _) (v := _) rfl (by kernel_rfl) (by kernel_rfl) (by kernel_rfl) (fun _ _ _ h => h) (Or.inl ⟨by kernel_rfl, ?hyq14⟩) (by assumption) ?restq14
  case hyq14 => (intro w hSw; (try dsimp only at hSw); go_simp; try (with_reducible rfl))
  try simp only [List.getElem_toArray, List.getElem_cons_succ, List.getElem_cons_zero, Act.put, List.setIfInBounds_toArray, List.set_cons_zero, List.set_cons_succ]
  refine' wpAnyH_take (i := 16) (oi := _) (v := _) rfl (by kernel_rfl) (by kernel_rfl) (by kernel_rfl) (fun _ _ _ h => h) (Or.inl ⟨by kernel_rfl, ?hyq15⟩) (by assumption) ?restq15
  case hyq15 => (intro w hSw; (try dsimp only at hSw); go_simp; try (with_reducible rfl))
  try simp only [List.getElem_toArray, List.getElem_cons_succ, List.getElem_cons_zero, Act.put, List.setIfInBounds_toArray, List.set_cons_zero, List.set_cons_succ]
  refine' wpAnyH_take (i := 17) (oi := _) (v := _) rfl (by kernel_rfl) (by kernel_rfl) (by kernel_rfl) (fun _ _ _ h => h) (Or.inl ⟨by kernel_rfl, ?hyq16⟩) (by assumption) ?restq16
  case hyq16 => (intro w hSw; (try dsimp only at hSw); go_simp; try (with_reducible rfl))
  try simp only [List.getElem_toArray, List.getElem_cons_succ, List.getElem_cons_zero, Act.put, List.setIfInBounds_toArray, List.set_cons_zero, List.set_cons_succ]
  refine' wpAnyH_take (i := 18) (oi := _) (v := _) rfl (by kernel_rfl) (by kernel_rfl) (by kernel_rfl) (fun _ _ _ h => h) (Or.inl ⟨by kernel_rfl, ?hyq17⟩) (by assumption) ?restq17
  case hyq17 => (intro w hSw; (try dsimp only at hSw); go_simp; try (with_reducible rfl))
  try simp only [List.getElem_toArray, List.getElem_cons_succ, List.getElem_cons_zero, Act.put, List.setIfInBounds_toArray, List.set_cons_zero, List.set_cons_succ]
  refine' wpAnyH_take (i := 19) (oi := _) (v := _) rfl (by kernel_rfl) (by kernel_rfl) (by kernel_rfl) (fun _ _ _ h => h) (Or.inl ⟨by kernel_rfl, ?hyq18⟩) (by assumption) ?restq18
  case hyq18 => (intro w hSw; (try dsimp only at hSw); go_simp; try (with_reducible rfl))
  try simp only [List.getElem_toArray, List.getElem_cons_succ, List.getElem_cons_zero, Act.put, List.setIfInBounds_toArray, List.set_cons_zero, List.set_cons_succ]
  refine' wpAnyH_take (i := 20) (oi := _) (v := _) rfl (by kernel_rfl) (by kernel_rfl) (by kernel_rfl) (fun _ _ _ h => h) (Or.inl ⟨by kernel_rfl, ?hyq19⟩) (by assumption) ?restq19
  case hyq19 => (intro w hSw; (try dsimp only at hSw); go_simp; try (with_reducible rfl))
  try simp only [List.getElem_toArray, List.getElem_cons_succ, List.getElem_cons_zero, Act.put, List.setIfInBounds_toArray, List.set_cons_zero, List.set_cons_succ]
  refine' wpAnyH_take (i := 21) (oi := _) (v := _) rfl (by kernel_rfl) (by kernel_rfl) (by kernel_rfl) (fun _ _ _ h => h) (Or.inl ⟨by kernel_rfl, ?hyq20⟩) (by assumption) ?restq20
  case hyq20 => (intro w hSw; (try dsimp only at hSw); go_simp; try (with_reducible rfl))
  try simp only [List.getElem_toArray, List.getElem_cons_succ, List.getElem_cons_zero, Act.put, List.setIfInBounds_toArray, List.set_cons_zero, List.set_cons_succ]
  refine' wpAnyH_take (i := 22) (oi := _) (v := _) rfl (by kernel_rfl) (by kernel_rfl) (by kernel_rfl) (fun _ _ _ h => h) (Or.inl ⟨by kernel_rfl, ?hyq21⟩) (by assumption) ?restq21
  case hyq21 => (intro w hSw; (try dsimp only at hSw); go_simp; try (with_reducible rfl))
  try simp only [List.getElem_toArray, List.getElem_cons_succ, List.getElem_cons_zero, Act.put, List.setIfInBounds_toArray, List.set_cons_zero, List.set_cons_succ]
  refine' wpAnyH_take (i := 23) (oi := _) (v := _) rfl (by kernel_rfl) (by kernel_rfl) (by kernel_rfl) (fun _ _ _ h => h) (Or.inl ⟨by kernel_rfl, ?hyq22⟩) (by assumption) ?restq22
  case hyq22 => (intro w hSw; (try dsimp only at hSw); go_simp; try (with_reducible rfl))
  try simp only [List.getElem_toArray, List.getElem_cons_succ, List.getElem_cons_zero, Act.put, List.setIfInBounds_toArray, List.set_cons_zero, List.set_cons_succ]
  refine wpAnyH_ready (rs := [9]) (by kernel_rfl) (by simp) ?_
  refine AllReadyH.cons (o := _) rfl (fun K hK => ?_) AllReadyH.nil
  go_simp
  go_at_call 27; with_reducible refine (CO1.out _ (by exact bdrew1 _)).mono ?_; rintro e w1 ⟨v1, rfl, ho1, hb1⟩; obtain ⟨x1, y1, rfl⟩ := own_form ho1; have HO1 := hid ho1; have HB1 := hid (btr (bdrew1 _) hb1); clear ho1
  (try go_wp2_with fail)
  refine hK.out _ _ ?_ (fun hHeld => ?_)
  · (try dsimp only); (exact HSS.out _ HB1.out)
  clear hK K
  try simp only [List.getElem_toArray, List.getElem_cons_succ, List.getElem_cons_zero, Act.put, List.setIfInBounds_toArray, List.set_cons_zero, List.set_cons_succ]
  refine wpAnyH_ready (rs := [15]) (by kernel_rfl) (by simp) ?_
  refine AllReadyH.cons (o := _) rfl (fun K hK => ?_) AllReadyH.nil
  go_simp
  go_at_call 27; with_reducible refine (CO2.out _ HB1.out).mono ?_; rintro e w2 ⟨v2, rfl, ho2, hb2⟩; obtain ⟨x2, y2, rfl⟩ := own_form ho2; have HO2 := hid ho2; have HB2 := hid (btr HB1.out hb2); have HB12 := hid hb2; clear ho2
  (try go_wp2_with fail)
  refine hK.out _ _ ?_ (fun hHeld => ?_)
  · (try dsimp only); (exact HSS.out _ HB2.out)
  clear hK K
  try simp only [List.getElem_toArray, List.getElem_cons_succ, List.getElem_cons_zero, Act.put, List.setIfInBounds_toArray, List.set_cons_zero, List.set_cons_succ]
  refine' wpAnyH_take (i := 24) (oi := _) (v := _) rfl (by kernel_rfl) (by kernel_rfl) (by kernel_rfl) (fun _ _ _ h => h) (Or.inl ⟨by kernel_rfl, ?hyq23⟩) (by assumption) ?restq23
  case hyq23 => (intro w hSw; (try dsimp only at hSw); go_simp; try (with_reducible rfl))
  try simp only [List.getElem_toArray, List.getElem_cons_succ, List.getElem_cons_zero, Act.put, List.setIfInBounds_toArray, List.set_cons_zero, List.set_cons_succ]
  have HX2 := hid (row_on HX.out HB2.out)
  have f0 := row_frz HX2.out 0
  have f1 := row_frz HX2.out 1
  have f2 := row_frz HX2.out 2
  have f3 := row_frz HX2.out 3
  have f4 := row_frz HX2.out 4
  have f5 := row_frz HX2.out 5
  have c0 := row_cell HX2.out 0
  have c1 := row_cell HX2.out 1
  have c2 := row_cell HX2.out 2
  have c3 := row_cell HX2.out 3
  have c4 := row_cell HX2.out 4
  have c5 := row_cell HX2.out 5
  simp only [List.getElem?_toArray, List.getElem?_cons_succ, List.getElem?_cons_zero] at c0 c1 c2 c3 c4 c5
  refine wpAnyH_ready (rs := [25]) (by kernel_rfl) (by simp) ?_
  refine AllReadyH.cons (o := _) rfl (fun K hK => ?_) AllReadyH.nil
  go_simp
  obtain ⟨W3, hW3⟩ : ∃ W3, (((((w2.setCell ⟨R, 0, none⟩ (.int .i64 b.cap)).setCell ⟨R, 1, none⟩ (.int .i64 b.meet)).setCell ⟨R, 2, none⟩ (.slice x1 b.l1.length y1)).setCell ⟨R, 3, none⟩ (.slice x2 b.l2.length y2)).setCell ⟨R, 4, none⟩ (.int .u64 b.high)).setCell ⟨R, 5, none⟩ (.int .u64 b.seq) = W3 := ⟨_, rfl⟩
  rw [hW3]
  have hk3 : Kp (fun j => j = R) w2 W3 := by
    rw [← hW3]
    exact (((((Kp.set w2 R 0 _).trans (Kp.set _ R 1 _) (fun _ _ h => h)).trans (Kp.set _ R 2 _) (fun _ _ h => h)).trans (Kp.set _ R 3 _) (fun _ _ h => h)).trans (Kp.set _ R 4 _) (fun _ _ h => h)).trans (Kp.set _ R 5 _) (fun _ _ h => h)
  have hR3 : W3.heap[R]? = some (.cells (bkv b (.slice x1 b.l1.length y1) (.slice x2 b.l2.length y2)) 30 (0, 0)) := by
    rw [← hW3, set_row _ (set_row _ (set_row _ (set_row _ (set_row _ (set_row _ HX2.out)))))]
    rfl
  have hM3 : Bm W3 B b := (HM.out.on HB2.out).kept hk3 (fun j hj => (HM.out.on HB2.out).ne HX2.out (by decide) (by decide) (by decide) hj)
  have HK3 := hid hk3
  have HR3 := hid hR3
  have HM3 := hid hM3
  clear hW3 hk3 hR3 hM3 f0 f1 f2 f3 f4 f5 c0 c1 c2 c3 c4 c5
  refine hK.out _ _ ?_ (fun hHeld => ?_)
  · exact bm_cells HM3.out
  clear hK K hHeld
  refine wpAnyH_done (by kernel_rfl) ?_ _
  go_wp2
  have c0 := row_cell HR3.out 0
  have c1 := row_cell HR3.out 1
  have c2 := row_cell HR3.out 2
  have c3 := row_cell HR3.out 3
  have c4 := row_cell HR3.out 4
  have c5 := row_cell HR3.out 5
  simp only [bkv, List.getElem?_toArray, List.getElem?_cons_succ, List.getElem?_cons_zero] at c0 c1 c2 c3 c4 c5
  refine bodyPost_ret (v := .agg (bkv b (.slice x1 b.l1.length y1) (.slice x2 b.l2.length y2))) (by simp [results, Try.results12, go_sem, bkv, *]) rfl ⟨_, _, rfl, ?_, ?_, ?_⟩
  · refine own_base (own_same (own_on HO1.out HB12.out) (fun g hg => ?_)) HBW.out.size
    obtain ⟨cc, e⟩ := own_ty (own_on HO1.out HB12.out) hg
    exact HK3.out.obj g (row_lt e) (row_ne e HX2.out (by decide))
  · refine own_base (own_same HO2.out (fun g hg => ?_)) (Nat.le_trans HBW.out.size HB1.out.size)
    obtain ⟨cc, e⟩ := own_ty HO2.out hg
    exact HK3.out.obj g (row_lt e) (row_ne e HX2.out (by decide))
  · have h1 := btr HBW.out HB2.out
    have := HRR.out
    exact h1.trans (HK3.out.below h1.size (fun g hg e => by omega))
end Go.Proofs.Ythdikkchblmebaa
