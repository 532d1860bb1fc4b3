/-
  The order that a command lets come.
-/
import Derived.Test.YtojmcfkbekodpaaRb
namespace Go.Proofs.Ytojmcfkbekodpaa
open Go.RowKit Go.Deep Go.Shelf
set_option linter.unusedVariables false
set_option linter.unusedSimpArgs false
set_option maxHeartbeats 4000000
set_option maxRecDepth 100000
/-- what a command is refused for by itself. -/
def chk (c : Cm) : Int := if c.kd = 1 then chO c else if c.kd = 3 then chO { c with sd := 1, ty := 1 } else if c.kd = 2 then 0 else 90
theorem check_any (c : Cm) (w : World) (hc : CmOk c) : Calls Try.prog 45 #[.agg (cmr c)] w fun e w' => e = .returned (.int .i64 (chk c)) ∧ Below w.heap.size w w' := by
  have C1 := hid (fun U => checkOrder_any c U hc)
  have C2 := hid (fun U => checkOrder_any { c with sd := 1, ty := 1 } U ⟨hc.id0, hc.id1, hc.mb0, hc.mb1, hc.qt0, hc.qt1, hc.pk0, hc.pk1⟩)
  unfold cmr at C1 C2
  simp only at C2
  clear hc
  by_cases k1 : c.kd = 1
  · have hr : chk c = chO c := by simp [chk, k1]
    rw [hr]
    have k1' : (c.kd == 1) = true := by simpa using k1
    clear k1 hr
    unfold cmr
    go_enter Try.func45, Try.ntmps45
    go_wp2_with (go_at_call 68; with_reducible refine (C1.out _).mono ?_; rintro e w1 ⟨rfl, hb1⟩)
    go_ret
    exact ⟨rfl, btr (ball _ _) hb1⟩
  · have k1' : (c.kd == 1) = false := by simpa using k1
    by_cases k3 : c.kd = 3
    · have hr : chk c = chO { c with sd := 1, ty := 1 } := by simp [chk, k3]
      rw [hr]
      have k3' : (c.kd == 3) = true := by simpa using k3
      clear k1 k3 hr
      unfold cmr
      go_enter Try.func45, Try.ntmps45
      go_wp2_with (go_at_call 68; with_reducible refine (C2.out _).mono ?_; rintro e w1 ⟨rfl, hb1⟩)
      go_ret
      exact ⟨rfl, btr (ball _ _) hb1⟩
    · have k3' : (c.kd == 3) = false := by simpa using k3
      by_cases k2 : c.kd = 2
      · have hr : chk c = 0 := by simp [chk, k2]
        rw [hr]
        have k2' : (c.kd == 2) = true := by simpa using k2
        clear k1 k3 k2 hr
        unfold cmr
        go_enter Try.func45, Try.ntmps45
        go_wp2
        go_ret
        exact ⟨rfl, ball _ _⟩
      · have hr : chk c = 90 := by simp [chk, k1, k2, k3]
        rw [hr]
        have k2' : (c.kd == 2) = false := by simpa using k2
        clear k1 k3 k2 hr
        unfold cmr
        go_enter Try.func45, Try.ntmps45
        go_wp2
        go_ret
        exact ⟨rfl, ball _ _⟩
/-- the command, a Replace of the kind of the order it replaces. -/
def cmN (b : Bs) (c : Cm) : Cm := if c.kd = 3 then { c with mb := (fo b c.tg).1.mb, sd := (fo b c.tg).2.1, ty := (fo b c.tg).1.ty } else c
def ord (c : Cm) : Or := ⟨c.id, c.mb, c.ty, c.pr, 0, 0, c.pk⟩
theorem info70 : (Try.prog.info? 88).map (·.size) = some 9 := by kernel_rfl
theorem crow_info (o : Or) (s q : Int) : (Try.prog.info? 88).map (·.size) = some (crow o s q).size := info70
theorem crow_all (o : Or) (s q : Int) : (crow o s q).all (·.oneCell') = true := by simp [crow, Value.oneCell']
theorem crow_size (o y : Or) (s q t r : Int) : (crow o s q).size = (crow y t r).size := rfl
theorem order_any (B : Nat) (b : Bs) (c : Cm) (w : World) (h : Bm w B b) (hn : b.l1.length + b.l2.length ≤ 1048576) :
    Calls Try.prog 29 #[.pointer (some ⟨B, 0, none⟩), .agg (cmr c)] w fun e w' => e = .returned (.agg (crow (ord (cmN b c)) (cmN b c).sd c.qt)) ∧ Below w.heap.size w w' := by
  by_cases k3 : c.kd = 3
  · obtain ⟨o, s, v, hf⟩ : ∃ o s v, fo b c.tg = (o, s, v) := ⟨_, _, _, rfl⟩
    have e1 : cmN b c = { c with mb := o.mb, sd := s, ty := o.ty } := by simp [cmN, k3, hf]
    rw [e1]
    have k3' : (c.kd == 3) = true := by simpa using k3
    obtain ⟨W, hW⟩ : ∃ W, (w.alloc (.cells (cmr c) 38)).alloc (.cells (crow oz 0 0) 88) = W := ⟨_, rfl⟩
    have hbW : Below w.heap.size w W := by rw [← hW]; exact btr (ball _ _) (ball _ _)
    have hR : W.heap[w.heap.size]? = some (.cells (cmr c) 38 (0, 0)) := by
      rw [← hW, Below.heap_alloc _ _ _ (by simp)]; exact World.alloc_heap_new _ _
    have hZ : W.heap[w.heap.size + 1]? = some (.cells (crow oz 0 0) 88 (0, 0)) := by
      rw [← hW]
      have := World.alloc_heap_new (w.alloc (.cells (cmr c) 38)) (.cells (crow oz 0 0) 88)
      simpa using this
    have C := hid (findB_any B b c.tg W (h.on hbW) hn)
    rw [hf] at C
    simp only at C
    have r0 := row_cell hR 0
    have r2 := row_cell hR 2
    simp only [cmr, List.getElem?_toArray, List.getElem?_cons_succ, List.getElem?_cons_zero] at r0 r2
    have HW := hid hW
    have HBW := hid hbW
    have HR := hid hR
    have HZ := hid hZ
    clear k3 h hf e1 hW hbW hR hZ
    unfold orow at C
    unfold cmr
    go_enter Try.func29, Try.ntmps29
    go_upto_region 1 with fail
    have e0 := HW.out
    simp only [cmr, crow, oz] at e0
    rw [e0]
    clear e0
    go_upto_region 3 with (go_at_call 51; with_reducible refine (C.out).mono ?_; rintro e w1 ⟨rfl, hb1⟩; have HB1 := hid hb1; clear hb1)
    obtain ⟨W1, hW1⟩ : ∃ W1, w1.alloc (.cells #[.int .u64 o.id, .int .u32 o.mb, .int .i64 o.ty, .int .i64 o.pr, .int .u64 o.vi, .int .u64 o.hi, .int .u64 o.pk] 86) = W1 := ⟨_, rfl⟩
    have HW1 := hid (show Below W.heap.size W W1 from by rw [← hW1]; exact btr HB1.out (ball _ _))
    have HR1 := hid (show W1.heap[w1.heap.size]? = some (.cells #[.int .u64 o.id, .int .u32 o.mb, .int .i64 o.ty, .int .i64 o.pr, .int .u64 o.vi, .int .u64 o.hi, .int .u64 o.pk] 86 (0, 0)) from by rw [← hW1]; exact World.alloc_heap_new _ _)
    rw [hW1]
    clear hW1 r0 r2
    have o1 := row_cell HR1.out 1
    have o2 := row_cell HR1.out 2
    have hR1 := row_on HR.out HW1.out
    have hZ1 := row_on HZ.out HW1.out
    have q3 := row_cell hR1 3
    have q4 := row_cell hR1 4
    have q5 := row_cell hR1 5
    have f3 := row_frz hR1 3
    have f4 := row_frz hR1 4
    have f5 := row_frz hR1 5
    have nO : w.heap.size ≠ w1.heap.size := by have := row_lt HR.out; have := HB1.out.size; omega
    have HR2 := hid hR1
    have HZ2 := hid hZ1
    simp only [cmr, crow, oz, List.getElem?_toArray, List.getElem?_cons_succ, List.getElem?_cons_zero] at o1 o2 q3 q4 q5
    clear hR1 hZ1
    go_region
    obtain ⟨W2, hW2⟩ : ∃ W2, (((W1.setCell ⟨w.heap.size, 3, none⟩ (.int .u32 o.mb)).setCell ⟨w.heap.size, 4, none⟩ (.int .i64 s)).setCell ⟨w.heap.size, 5, none⟩ (.int .i64 o.ty)).drew = W2 := ⟨_, rfl⟩
    have hR3 : W2.heap[w.heap.size]? = some (.cells (cmr { c with mb := o.mb, sd := s, ty := o.ty }) 38 (0, 0)) := by
      rw [← hW2]
      show (((W1.setCell ⟨w.heap.size, 3, none⟩ (.int .u32 o.mb)).setCell ⟨w.heap.size, 4, none⟩ (.int .i64 s)).setCell ⟨w.heap.size, 5, none⟩ (.int .i64 o.ty)).heap[w.heap.size]? = _
      rw [set_row _ (set_row _ (set_row _ HR2.out))]
      rfl
    have k2 : Kp (fun j => j = w.heap.size) W1 W2 := by
      rw [← hW2]
      exact (((Kp.set W1 _ 3 _).trans (Kp.set _ _ 4 _) (fun _ _ h => h)).trans (Kp.set _ _ 5 _) (fun _ _ h => h)).trans (Kp.of (fun j => j = w.heap.size) (bdrew1 _)) (fun _ _ h => h)
    have hZ3 := k2.row HZ2.out (fun e => by omega)
    have HB2 := hid (show Below w.heap.size w W2 from (btr HBW.out HW1.out).trans (k2.below (btr HBW.out HW1.out).size (fun b hb e => by omega)))
    rw [hW2]
    clear hW2 k2 q3 q4 q5 f3 f4 f5 o1 o2
    have q1 := row_cell hR3 1
    have q3 := row_cell hR3 3
    have q4 := row_cell hR3 4
    have q5 := row_cell hR3 5
    have q6 := row_cell hR3 6
    have q7 := row_cell hR3 7
    have q8 := row_cell hR3 8
    have sR := row_lt hR3
    have nR : w.heap.size ≠ W2.heap.size := by omega
    simp only [cmr, List.getElem?_toArray, List.getElem?_cons_succ, List.getElem?_cons_zero] at q1 q3 q4 q5 q6 q7 q8
    have HZ3 := hid hZ3
    clear hR3 hZ3
    have HZA := hid (fun ob => (show (W2.alloc ob).heap[w.heap.size + 1]? = some (.cells (crow oz 0 0) 88 (0, 0)) from row_on HZ3.out (ball _ _)))
    have ae : crow (ord { c with mb := o.mb, sd := s, ty := o.ty }) s c.qt = #[.int .u64 c.id, .int .u32 o.mb, .int .i64 o.ty, .int .i64 c.pr, .int .u64 0, .int .u64 0, .int .u64 c.pk, .int .i64 s, .int .u64 c.qt] := rfl
    have AE := hid ae
    have AI := hid (crow_info (ord { c with mb := o.mb, sd := s, ty := o.ty }) s c.qt)
    have AS := hid (crow_size oz (ord { c with mb := o.mb, sd := s, ty := o.ty }) 0 0 s c.qt)
    have AA := hid (crow_all (ord { c with mb := o.mb, sd := s, ty := o.ty }) s c.qt)
    rw [ae] at AI AS AA
    clear ae
    go_wp2_with (refine wpList_store_row (by rfl) 88 (.tmp 4) (.tmp 44) (by rfl) (w.heap.size + 1) #[.int .u64 c.id, .int .u32 o.mb, .int .i64 o.ty, .int .i64 c.pr, .int .u64 0, .int .u64 0, .int .u64 c.pk, .int .i64 s, .int .u64 c.qt] (by rfl) (by rfl) 88 (crow oz 0 0) (HZA.out _) AI.out AS.out AA.out ?_)
    refine bodyPost_ret (results_cell_row (fn := Try.f29) Try.results29 _ _ (w.heap.size + 1) 88 _ (0, 0) _ (by rfl) (setRow_heap _ _ _ _ 88 (0, 0) (HZA.out _)) Try.underlying88 rfl AI.out) rfl ⟨rfl, ?_⟩
    exact (btr HB2.out (ball W2 _)).trans ((setRow_kp _ _ _).below (btr HB2.out (ball W2 _)).size (fun b hb e => by omega))
  · have e1 : cmN b c = c := by simp [cmN, k3]
    rw [e1]
    have k3' : (c.kd == 3) = false := by simpa using k3
    clear k3 h
    unfold cmr
    go_enter Try.func29, Try.ntmps29
    go_wp2
    exact bodyPost_ret (v := .agg (crow (ord c) c.sd c.qt)) (by simp [results, Try.results29, go_sem, crow, ord]) rfl ⟨rfl, by repeat (first | exact Below.refl _ _ | refine Below.setCell ?_ (by simp; try omega) _ | refine Below.alloc ?_ (by simp; try omega) _)⟩
end Go.Proofs.Ytojmcfkbekodpaa
namespace Go.Proofs.Ytojmcfkbekodpaa
open Go.RowKit Go.Deep Go.Shelf
set_option linter.unusedVariables false
set_option linter.unusedSimpArgs false
set_option maxHeartbeats 4000000
set_option maxRecDepth 100000
def evR (c : Cm) (y : Int) : Ev := ⟨0, 2, if c.kd = 2 then 0 else c.id, 0, if c.kd = 1 then 0 else c.tg, 0, 0, 0, 0, 0, 0, 0, y⟩
theorem reject_any (T B : Nat) (b : Bs) (ve : Value) (es : List Ev) (c : Cm) (y : Int) (w : World) (h : Tn w T B b ve es) (hn : es.length ≤ 17179869184) :
    Calls Try.prog 26 #[.pointer (some ⟨T, 0, none⟩), .agg (cmr c), .int .i64 y] w fun e w' => e = .returned (.tuple #[]) ∧ Told w T B b.told ve (es ++ [(evR c y).num (nx b.seq)]) (tfp T B ve) w' := by
  have HC := hid (fun (U : World) (hU : Below w.heap.size w U) => (tell_any T B b ve es (evR c y) U (h.on hU) hn).mono (R' := fun r w' => r = .returned (.tuple #[]) ∧ Told w T B b.told ve (es ++ [(evR c y).num (nx b.seq)]) (tfp T B ve) w') (fun e w' hh => by
    obtain ⟨rfl, ve', h1, h2, h3⟩ := hh
    exact ⟨rfl, ve', h1, fun j hj => (h2 j hj).imp (fun h => h) (fun h => Nat.le_trans hU.size h), (Kp.of _ hU).trans h3 (fun _ _ h => h)⟩))
  unfold cmr
  clear h
  by_cases k1 : c.kd = 1
  · have k1' : (c.kd == 1) = true := by simpa using k1
    have e1 : evR c y = ⟨0, 2, c.id, 0, 0, 0, 0, 0, 0, 0, 0, 0, y⟩ := by simp [evR, k1]
    rw [e1] at HC
    rw [e1]
    simp only [ecs] at HC
    clear k1 e1
    go_enter Try.func26, Try.ntmps26
    go_wp2_with (go_at_call 50; with_reducible refine (HC.out _ ?_).mono ?_; (repeat (first | exact Below.refl _ _ | refine Below.setCell ?_ (by simp; try omega) _ | refine Below.alloc ?_ (by simp; try omega) _)); rintro e w1 ⟨rfl, h1⟩)
    go_end0
    exact ⟨rfl, h1⟩
  · have k1' : (c.kd == 1) = false := by simpa using k1
    by_cases k2 : c.kd = 2
    · have k2' : (c.kd == 2) = true := by simpa using k2
      have e1 : evR c y = ⟨0, 2, 0, 0, c.tg, 0, 0, 0, 0, 0, 0, 0, y⟩ := by simp [evR, k2]
      rw [e1] at HC
      rw [e1]
      simp only [ecs] at HC
      clear k1 k2 e1
      go_enter Try.func26, Try.ntmps26
      go_wp2_with (go_at_call 50; with_reducible refine (HC.out _ ?_).mono ?_; (repeat (first | exact Below.refl _ _ | refine Below.setCell ?_ (by simp; try omega) _ | refine Below.alloc ?_ (by simp; try omega) _)); rintro e w1 ⟨rfl, h1⟩)
      go_end0
      exact ⟨rfl, h1⟩
    · have k2' : (c.kd == 2) = false := by simpa using k2
      have e1 : evR c y = ⟨0, 2, c.id, 0, c.tg, 0, 0, 0, 0, 0, 0, 0, y⟩ := by simp [evR, k1, k2]
      rw [e1] at HC
      rw [e1]
      simp only [ecs] at HC
      clear k1 k2 e1
      go_enter Try.func26, Try.ntmps26
      go_wp2_with (go_at_call 50; with_reducible refine (HC.out _ ?_).mono ?_; (repeat (first | exact Below.refl _ _ | refine Below.setCell ?_ (by simp; try omega) _ | refine Below.alloc ?_ (by simp; try omega) _)); rintro e w1 ⟨rfl, h1⟩)
      go_end0
      exact ⟨rfl, h1⟩
end Go.Proofs.Ytojmcfkbekodpaa
