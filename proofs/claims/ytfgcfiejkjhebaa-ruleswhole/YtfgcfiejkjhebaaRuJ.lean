/-
  What an order that comes meets.
-/
import Derived.Test.YtfgcfiejkjhebaaRuI
import Derived.Deep.DrawnRows
namespace Go.Proofs.Ytfgcfiejkjhebaa
open Go.RowKit Go.Deep Go.Shelf
set_option linter.unusedVariables false
set_option linter.unusedSimpArgs false
set_option maxHeartbeats 4000000
set_option maxRecDepth 100000
attribute [local go_sem ↓] Go.wp_at_zero Go.wp_at_succ
theorem has_any (B : Nat) (b : Bs) (id : Int) (w : World) (h : Bm w B b) (hn : b.l1.length + b.l2.length ≤ 1048576) :
    Calls Try.prog 31 #[.pointer (some ⟨B, 0, none⟩), .int .u64 id] w fun e w' => e = .returned (.bool (fo b id).2.2) ∧ Below w.heap.size w w' := by
  have C := hid (findB_any B b id w h hn)
  obtain ⟨o, s, v, hf⟩ : ∃ o s v, fo b id = (o, s, v) := ⟨_, _, _, rfl⟩
  rw [hf] at C
  rw [hf]
  simp only at C ⊢
  unfold orow at C
  clear h hf
  go_enter Try.func31, Try.ntmps31
  go_wp2_with (go_at_call 35; with_reducible refine (C.out).mono ?_; rintro e w1 ⟨rfl, hb⟩)
  go_ret
  exact ⟨rfl, btr hb (ball _ _)⟩
/-- an order that comes. -/
def crow (o : Or) (s q : Int) : Array Value := #[.int .u64 o.id, .int .u32 o.mb, .int .i64 o.ty, .int .i64 o.pr, .int .u64 o.vi, .int .u64 o.hi, .int .u64 o.pk, .int .i64 s, .int .u64 q]
def rch (o : Or) (s p : Int) : Bool := o.ty == 2 || !btt s p o.pr
theorem reaches_any (o : Or) (s q p : Int) (w : World) : Calls Try.prog 54 #[.agg (crow o s q), .int .i64 p] w fun e w' => e = .returned (.bool (rch o s p)) ∧ Below w.heap.size w w' := by
  have C := hid (fun U => better_any s p o.pr U)
  unfold crow
  by_cases h : o.ty = 2
  · have h1 : (o.ty == 2) = true := by simpa using h
    have hr : rch o s p = true := by simp [rch, h]
    rw [hr]
    go_enter Try.func54, Try.ntmps54
    go_wp2
    go_ret
    exact ⟨rfl, ball _ _⟩
  · have h1 : (o.ty == 2) = false := by simpa using h
    have hr : rch o s p = !btt s p o.pr := by simp [rch, h]
    rw [hr]
    obtain ⟨v, hv⟩ : ∃ v, btt s p o.pr = v := ⟨_, rfl⟩
    rw [hv] at C
    rw [hv]
    go_enter Try.func54, Try.ntmps54
    go_wp2_with (go_at_call 44; with_reducible refine (C.out _).mono ?_; rintro e w1 ⟨rfl, rfl⟩)
    go_ret
    exact ⟨rfl, ball _ _⟩
/-- a side's orders. -/
def Bs.sl (b : Bs) (s : Int) : LO := if s = 1 then b.l1 else b.l2
def Bs.sp (b : Bs) (s : Int) : Option Addr := if s = 1 then b.p1 else b.p2
def Bs.sc (b : Bs) (s : Int) : Nat := if s = 1 then b.c1 else b.c2
theorem Bm.sli {w : World} {B : Nat} {b : Bs} (h : Bm w B b) (s : Int) : Li w (b.sp s) (b.sc s) (b.sl s) := by
  unfold Bs.sp Bs.sc Bs.sl
  split
  · exact h.li1
  · exact h.li2
def mtl (o : Or) (s : Int) : LO → Bool
  | [] => false
  | x :: _ => rch o s x.2.pr
def mts (b : Bs) (o : Or) (s : Int) : Bool := mtl o s (b.sl (oth s))
theorem meets_any (B : Nat) (b : Bs) (o : Or) (s q : Int) (w : World) (h : Bm w B b) (hs : s = 1 ∨ s = 2) (hn : b.l1.length + b.l2.length ≤ 1048576) :
    Calls Try.prog 33 #[.pointer (some ⟨B, 0, none⟩), .agg (crow o s q)] w fun e w' => e = .returned (.bool (mts b o s)) ∧ Below w.heap.size w w' := by
  obtain ⟨W, hW⟩ : ∃ W, w.alloc (.cells (crow o s q) 61) = W := ⟨_, rfl⟩
  have hb : Below w.heap.size w W := by rw [← hW]; exact ball _ _
  have hR : W.heap[w.heap.size]? = some (.cells (crow o s q) 61 (0, 0)) := by rw [← hW]; exact World.alloc_heap_new _ _
  have hB := h.on hb
  obtain ⟨k, hk, hks⟩ : ∃ k : Nat, k < 2 ∧ oth s = (k : Int) + 1 := by
    rcases hs with rfl | rfl
    · exact ⟨1, by decide, rfl⟩
    · exact ⟨0, by decide, rfl⟩
  have cl : W.cell? ⟨B, 2 + k, none⟩ = some (.slice (b.sp (oth s)) (b.sl (oth s)).length (b.sc (oth s))) := by
    rw [row_cell hB.row]
    rcases hs with rfl | rfl
    · obtain rfl : k = 1 := by have : oth 1 = 2 := rfl; omega
      rfl
    · obtain rfl : k = 0 := by have : oth 2 = 1 := rfl; omega
      rfl
  have hli := hB.sli (oth s)
  have c0 := row_cell hR 7
  simp only [crow, List.getElem?_toArray, List.getElem?_cons_succ, List.getElem?_cons_zero] at c0
  have CO := hid (fun U => other_any s U)
  rw [hks] at CO
  have CS := hid (fun U => side_any B k U hk)
  obtain ⟨p, hp⟩ : ∃ p, b.sp (oth s) = p := ⟨_, rfl⟩
  obtain ⟨c, hc⟩ : ∃ p, b.sc (oth s) = p := ⟨_, rfl⟩
  obtain ⟨l, hl⟩ : ∃ p, b.sl (oth s) = p := ⟨_, rfl⟩
  rw [hp, hc, hl] at hli cl
  have HM := hid (show mts b o s = mtl o s l from by unfold mts; rw [hl])
  have HW := hid hW
  have HBW := hid hb
  have HR := hid hR
  clear h hB hW hb hR hs hks hp hc hl
  cases l with
  | nil =>
    simp only [mtl] at HM
    rw [HM.out]
    simp only [List.length_nil] at cl
    go_enter Try.func33, Try.ntmps33
    go_upto_region 1 with fail
    have e0 := HW.out
    rw [e0]
    clear e0
    go_upto_region 2 with (first | (go_at_call 53; with_reducible refine (CO.out _).mono ?_; rintro e w1 ⟨rfl, rfl⟩) | (go_at_call 36; with_reducible refine (CS.out _).mono ?_; rintro e w1 ⟨rfl, rfl⟩))
    go_big_quiet (fail)
    go_wp2
    go_ret
    exact ⟨rfl, btr HBW.out (bdrew _ _)⟩
  | cons x r =>
    obtain ⟨g, hp, hc, hr⟩ := hli.cell (i := 0) (by simp)
    subst hp
    simp only [mtl] at HM
    rw [HM.out]
    have hn0 : (0 : Int) < ((x :: r : LO).length : Int) := by simp
    obtain ⟨m, hm⟩ : ∃ m, (x :: r : LO).length = m := ⟨_, rfl⟩
    rw [hm] at cl hn0
    simp only [List.getElem_cons_zero, pv] at hc hr
    have cx := row_cell hr 3
    have d0 := row_cell HR.out 0
    have d1 := row_cell HR.out 1
    have d2 := row_cell HR.out 2
    have d3 := row_cell HR.out 3
    have d4 := row_cell HR.out 4
    have d5 := row_cell HR.out 5
    have d6 := row_cell HR.out 6
    have d8 := row_cell HR.out 8
    simp only [crow, orow, List.getElem?_toArray, List.getElem?_cons_succ, List.getElem?_cons_zero] at cx d0 d1 d2 d3 d4 d5 d6 d8
    have CR := hid (fun U => reaches_any o s q x.2.pr U)
    unfold crow at CR
    obtain ⟨v, hv⟩ : ∃ v, rch o s x.2.pr = v := ⟨_, rfl⟩
    rw [hv] at CR
    rw [hv]
    have hnm : 0 < m := by omega
    clear hn0
    have HX := hid hr
    have sx := row_lt hr
    have sg : g < W.heap.size := by
      obtain ⟨cur, e⟩ := own_ty hli.own (g := g) rfl
      exact row_lt e
    have sR := row_lt HR.out
    have HKP := hid (fun (U : World) (hU : Below W.heap.size W U) => (show (U.cell? ⟨w.heap.size, 0, none⟩ = some (.int .u64 o.id) ∧ U.cell? ⟨w.heap.size, 1, none⟩ = some (.int .u32 o.mb) ∧ U.cell? ⟨w.heap.size, 2, none⟩ = some (.int .i64 o.ty) ∧ U.cell? ⟨w.heap.size, 3, none⟩ = some (.int .i64 o.pr) ∧ U.cell? ⟨w.heap.size, 4, none⟩ = some (.int .u64 o.vi) ∧ U.cell? ⟨w.heap.size, 5, none⟩ = some (.int .u64 o.hi) ∧ U.cell? ⟨w.heap.size, 6, none⟩ = some (.int .u64 o.pk) ∧ U.cell? ⟨w.heap.size, 7, none⟩ = some (.int .i64 s) ∧ U.cell? ⟨w.heap.size, 8, none⟩ = some (.int .u64 q) ∧ U.cell? ⟨g, 0, none⟩ = some (.pointer (some ⟨x.1, 0, none⟩)) ∧ U.cell? ⟨x.1, 3, none⟩ = some (.int .i64 x.2.pr)) from
      ⟨(hU.cell sR).trans d0, (hU.cell sR).trans d1, (hU.cell sR).trans d2, (hU.cell sR).trans d3, (hU.cell sR).trans d4, (hU.cell sR).trans d5, (hU.cell sR).trans d6, (hU.cell sR).trans c0, (hU.cell sR).trans d8, (hU.cell sg).trans hc, (hU.cell sx).trans cx⟩))
    clear hm hr hli hv
    go_enter Try.func33, Try.ntmps33
    go_upto_region 1 with fail
    have e0 := HW.out
    rw [e0]
    clear e0
    go_upto_region 2 with (first | (go_at_call 53; with_reducible refine (CO.out _).mono ?_; rintro e w1 ⟨rfl, rfl⟩) | (go_at_call 36; with_reducible refine (CS.out _).mono ?_; rintro e w1 ⟨rfl, rfl⟩))
    refine wp_region_held_drew (S := (fun U => U.cell? ⟨w.heap.size, 0, none⟩ = some (.int .u64 o.id) ∧ U.cell? ⟨w.heap.size, 1, none⟩ = some (.int .u32 o.mb) ∧ U.cell? ⟨w.heap.size, 2, none⟩ = some (.int .i64 o.ty) ∧ U.cell? ⟨w.heap.size, 3, none⟩ = some (.int .i64 o.pr) ∧ U.cell? ⟨w.heap.size, 4, none⟩ = some (.int .u64 o.vi) ∧ U.cell? ⟨w.heap.size, 5, none⟩ = some (.int .u64 o.hi) ∧ U.cell? ⟨w.heap.size, 6, none⟩ = some (.int .u64 o.pk) ∧ U.cell? ⟨w.heap.size, 7, none⟩ = some (.int .i64 s) ∧ U.cell? ⟨w.heap.size, 8, none⟩ = some (.int .u64 q) ∧ U.cell? ⟨g, 0, none⟩ = some (.pointer (some ⟨x.1, 0, none⟩)) ∧ U.cell? ⟨x.1, 3, none⟩ = some (.int .i64 x.2.pr))) (by kernel_rfl) ?_ (fun hHeld => ?_)
    · (try dsimp only); (exact HKP.out _ (bdrew1 _))
    refine' wpAnyH_take (i := 0) (oi := _) (v := _) rfl (by kernel_rfl) (by kernel_rfl) (by kernel_rfl) (fun _ _ _ h => h) (Or.inl ⟨by kernel_rfl, ?hyq1⟩) (by assumption) ?restq1
    case hyq1 => (intro w hSw; (try dsimp only at hSw); go_simp; try (with_reducible rfl))
    try simp only [List.getElem_toArray, List.getElem_cons_succ, List.getElem_cons_zero, Act.put, List.setIfInBounds_toArray, List.set_cons_zero, List.set_cons_succ]
    refine' wpAnyH_take (i := 1) (oi := _) (v := _) rfl (by kernel_rfl) (by kernel_rfl) (by kernel_rfl) (fun _ _ _ h => h) (Or.inl ⟨by kernel_rfl, ?hyq2⟩) (by assumption) ?restq2
    case hyq2 => (intro w hSw; (try dsimp only at hSw); go_simp; try (with_reducible rfl))
    try simp only [List.getElem_toArray, List.getElem_cons_succ, List.getElem_cons_zero, Act.put, List.setIfInBounds_toArray, List.set_cons_zero, List.set_cons_succ]
    refine' wpAnyH_take (i := 2) (oi := _) (v := .bool true) rfl (by kernel_rfl) (by kernel_rfl) (by kernel_rfl) (fun _ _ _ h => h) (Or.inl ⟨by kernel_rfl, ?hyq3⟩) (by assumption) ?restq3
    case hyq3 => (intro w hSw; (try dsimp only at hSw); go_simp; try (with_reducible rfl))
    try simp only [List.getElem_toArray, List.getElem_cons_succ, List.getElem_cons_zero, Act.put, List.setIfInBounds_toArray, List.set_cons_zero, List.set_cons_succ]
    refine' wpAnyH_take (i := 3) (oi := _) (v := _) rfl (by kernel_rfl) (by kernel_rfl) (by kernel_rfl) (fun _ _ _ h => h) (Or.inl ⟨by kernel_rfl, ?hyq4⟩) (by assumption) ?restq4
    case hyq4 => (intro w hSw; (try dsimp only at hSw); go_simp; try (with_reducible rfl))
    try simp only [List.getElem_toArray, List.getElem_cons_succ, List.getElem_cons_zero, Act.put, List.setIfInBounds_toArray, List.set_cons_zero, List.set_cons_succ]
    refine' wpAnyH_take (i := 4) (oi := _) (v := _) rfl (by kernel_rfl) (by kernel_rfl) (by kernel_rfl) (fun _ _ _ h => h) (Or.inl ⟨by kernel_rfl, ?hyq5⟩) (by assumption) ?restq5
    case hyq5 => (intro w hSw; (try dsimp only at hSw); go_simp; try (with_reducible rfl))
    try simp only [List.getElem_toArray, List.getElem_cons_succ, List.getElem_cons_zero, Act.put, List.setIfInBounds_toArray, List.set_cons_zero, List.set_cons_succ]
    refine' wpAnyH_take (i := 5) (oi := _) (v := _) rfl (by kernel_rfl) (by kernel_rfl) (by kernel_rfl) (fun _ _ _ h => h) (Or.inl ⟨by kernel_rfl, ?hyq6⟩) (by assumption) ?restq6
    case hyq6 => (intro w hSw; (try dsimp only at hSw); go_simp; try (with_reducible rfl))
    try simp only [List.getElem_toArray, List.getElem_cons_succ, List.getElem_cons_zero, Act.put, List.setIfInBounds_toArray, List.set_cons_zero, List.set_cons_succ]
    refine' wpAnyH_take (i := 6) (oi := _) (v := _) rfl (by kernel_rfl) (by kernel_rfl) (by kernel_rfl) (fun _ _ _ h => h) (Or.inl ⟨by kernel_rfl, ?hyq7⟩) (by assumption) ?restq7
    case hyq7 => (intro w hSw; (try dsimp only at hSw); go_simp; try (with_reducible rfl))
    try simp only [List.getElem_toArray, List.getElem_cons_succ, List.getElem_cons_zero, Act.put, List.setIfInBounds_toArray, List.set_cons_zero, List.set_cons_succ]
    refine' wpAnyH_take (i := 7) (oi := _) (v := _) rfl (by kernel_rfl) (by kernel_rfl) (by kernel_rfl) (fun _ _ _ h => h) (Or.inl ⟨by kernel_rfl, ?hyq8⟩) (by assumption) ?restq8
    case hyq8 => (intro w hSw; (try dsimp only at hSw); go_simp; try (with_reducible rfl))
    try simp only [List.getElem_toArray, List.getElem_cons_succ, List.getElem_cons_zero, Act.put, List.setIfInBounds_toArray, List.set_cons_zero, List.set_cons_succ]
    refine' wpAnyH_take (i := 8) (oi := _) (v := _) rfl (by kernel_rfl) (by kernel_rfl) (by kernel_rfl) (fun _ _ _ h => h) (Or.inl ⟨by kernel_rfl, ?hyq9⟩) (by assumption) ?restq9
    case hyq9 => (intro w hSw; (try dsimp only at hSw); go_simp; try (with_reducible rfl))
    try simp only [List.getElem_toArray, List.getElem_cons_succ, List.getElem_cons_zero, Act.put, List.setIfInBounds_toArray, List.set_cons_zero, List.set_cons_succ]
    refine' wpAnyH_take (i := 9) (oi := _) (v := _) rfl (by kernel_rfl) (by kernel_rfl) (by kernel_rfl) (fun _ _ _ h => h) (Or.inl ⟨by kernel_rfl, ?hyq10⟩) (by assumption) ?restq10
    case hyq10 => (intro w hSw; (try dsimp only at hSw); go_simp; try (with_reducible rfl))
    try simp only [List.getElem_toArray, List.getElem_cons_succ, List.getElem_cons_zero, Act.put, List.setIfInBounds_toArray, List.set_cons_zero, List.set_cons_succ]
    refine' wpAnyH_take (i := 10) (oi := _) (v := _) rfl (by kernel_rfl) (by kernel_rfl) (by kernel_rfl) (fun _ _ _ h => h) (Or.inl ⟨by kernel_rfl, ?hyq11⟩) (by assumption) ?restq11
    case hyq11 => (intro w hSw; (try dsimp only at hSw); go_simp; try (with_reducible rfl))
    try simp only [List.getElem_toArray, List.getElem_cons_succ, List.getElem_cons_zero, Act.put, List.setIfInBounds_toArray, List.set_cons_zero, List.set_cons_succ]
    refine wpAnyH_ready (rs := [11]) (by kernel_rfl) (by simp) ?_
    refine AllReadyH.cons (o := _) rfl (fun K hK => ?_) AllReadyH.nil
    go_simp
    go_at_call 54; with_reducible refine (CR.out _).mono ?_; rintro e w2 ⟨rfl, hb2⟩; have HB2 := hid (btr (bdrew1 _) hb2)
    (try go_wp2_with fail)
    refine hK.out _ _ ?_ (fun hHeld => ?_)
    · (try dsimp only); (exact HKP.out _ HB2.out)
    clear hK K
    try simp only [List.getElem_toArray, List.getElem_cons_succ, List.getElem_cons_zero, Act.put, List.setIfInBounds_toArray, List.set_cons_zero, List.set_cons_succ]
    refine' wpAnyH_take (i := 12) (oi := _) (v := _) rfl (by kernel_rfl) (by kernel_rfl) (by kernel_rfl) (fun _ _ _ h => h) (Or.inl ⟨by kernel_rfl, ?hyq12⟩) (by assumption) ?restq12
    case hyq12 => (intro w hSw; (try dsimp only at hSw); go_simp; try (with_reducible rfl))
    try simp only [List.getElem_toArray, List.getElem_cons_succ, List.getElem_cons_zero, Act.put, List.setIfInBounds_toArray, List.set_cons_zero, List.set_cons_succ]
    refine' wpAnyH_take (i := 13) (oi := _) (v := _) rfl (by kernel_rfl) (by kernel_rfl) (by kernel_rfl) (fun _ _ _ h => h) (Or.inl ⟨by kernel_rfl, ?hyq13⟩) (by assumption) ?restq13
    case hyq13 => (intro w hSw; (try dsimp only at hSw); go_simp; try (with_reducible rfl))
    try simp only [List.getElem_toArray, List.getElem_cons_succ, List.getElem_cons_zero, Act.put, List.setIfInBounds_toArray, List.set_cons_zero, List.set_cons_succ]
    refine wpAnyH_done (by kernel_rfl) ?_ _
    go_wp2
    go_ret
    exact ⟨rfl, btr HBW.out HB2.out⟩
end Go.Proofs.Ytfgcfiejkjhebaa
