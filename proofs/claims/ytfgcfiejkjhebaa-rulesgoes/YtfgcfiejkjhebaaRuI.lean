/-
  The book's small calls.
-/
import Derived.Test.YtfgcfiejkjhebaaRuH
namespace Go.Proofs.Ytfgcfiejkjhebaa
open Go.RowKit Go.Deep Go.Shelf
set_option linter.unusedVariables false
set_option linter.unusedSimpArgs false
set_option maxHeartbeats 4000000
set_option maxRecDepth 100000
def evC (id q r : Int) : Ev := ⟨0, 4, id, 0, 0, 0, 0, 0, 0, q, 0, r, 0⟩
/-- what a call that tells leaves. -/
def Told (w : World) (T B : Nat) (b' : Bs) (ve : Value) (es' : List Ev) (S : Nat → Prop) (w' : World) : Prop :=
  ∃ ve', Tn w' T B b' ve' es' ∧ (∀ j, ve'.ownBlock = some j → ve.ownBlock = some j ∨ w.heap.size ≤ j) ∧ Kp S w w'
theorem end_any (T B : Nat) (b : Bs) (ve : Value) (es : List Ev) (id q r : Int) (w : World) (h : Tn w T B b ve es) (hn : es.length ≤ 17179869184) :
    Calls Try.prog 39 #[.pointer (some ⟨T, 0, none⟩), .int .u64 id, .int .u64 q, .int .i64 r] w fun e w' => e = .returned (.tuple #[]) ∧ Told w T B b.told ve (es ++ [(evC id q r).num (nx b.seq)]) (tfp T B ve) w' := by
  have C := tell_any T B b ve es (evC id q r) w h hn
  simp only [ecs, evC] at C
  have HC := hid C
  clear C h
  go_enter Try.func39, Try.ntmps39
  go_wp2_with (go_at_call 34; with_reducible refine (HC.out).mono ?_; rintro e w1 ⟨rfl, h1⟩)
  go_end0
  exact ⟨rfl, h1⟩
theorem side_any (B k : Nat) (w : World) (hk : k < 2) : Calls Try.prog 36 #[.pointer (some ⟨B, 0, none⟩), .int .i64 ((k : Int) + 1)] w fun e w' => e = .returned (.pointer (some ⟨B, 2 + k, none⟩)) ∧ w' = w := by
  have hh : k = 0 ∨ k = 1 := by omega
  rcases hh with rfl | rfl
  · go_enter Try.func36, Try.ntmps36
    go_wp2
    go_ret
    exact ⟨rfl, rfl⟩
  · go_enter Try.func36, Try.ntmps36
    go_wp2
    go_ret
    exact ⟨rfl, rfl⟩
theorem len_any (B : Nat) (b : Bs) (w : World) (h : Bm w B b) (hn : b.l1.length + b.l2.length ≤ 1048576) : Calls Try.prog 9 #[.pointer (some ⟨B, 0, none⟩)] w fun e w' => e = .returned (.int .i64 ((b.l1.length : Int) + b.l2.length)) ∧ ∃ n, w' = w.drewN n := by
  have c2 := row_cell h.row 2
  have c3 := row_cell h.row 3
  simp only [Bs.row, List.getElem?_toArray, List.getElem?_cons_succ, List.getElem?_cons_zero] at c2 c3
  obtain ⟨n1, e1⟩ : ∃ n, b.l1.length = n := ⟨_, rfl⟩
  obtain ⟨n2, e2⟩ : ∃ n, b.l2.length = n := ⟨_, rfl⟩
  rw [e1] at c2 hn ⊢
  rw [e2] at c3 hn ⊢
  clear h e1 e2
  go_enter Try.func9, Try.ntmps9
  go_wp2
  go_quiet (fail)
  go_wp2
  go_ret
  exact ⟨rfl, _, rfl⟩
def oz : Or := ⟨0, 0, 0, 0, 0, 0, 0⟩
/-- an order and its side, and whether there is one. -/
def fo (b : Bs) (id : Int) : Or × Int × Bool :=
  if h : 0 ≤ fnd id b.l1 then ((b.l1[(fnd id b.l1).toNat]'(by have := fnd_ge id b.l1; omega)).2, 1, true)
  else if h : 0 ≤ fnd id b.l2 then ((b.l2[(fnd id b.l2).toNat]'(by have := fnd_ge id b.l2; omega)).2, 2, true)
  else (oz, 0, false)
theorem index88 (a : Array Value) (i : Nat) (v : Value) (w : World) (hi : i < 2) (hv : a[i]? = some v) : (Instr.index 65 (.agg a) (.int .i64 (i : Int))).run Try.prog w = .ok v w := by
  have u := Try.underlying65
  have a1 := Try.isAgg64
  have z1 := Try.sizeOf64
  simp [Instr.index, asIntOf, run_underlying u, part, a1, z1, hv, hi, Sem.run_bind, Result.andThen]
theorem info50 : (Try.prog.info? 42).map (·.size) = some 7 := by kernel_rfl
theorem orow_info (z : Or) : (Try.prog.info? 42).map (·.size) = some (orow z).size := info50
theorem orow_all (z : Or) : (orow z).all (·.oneCell') = true := by simp [orow, Value.oneCell']
theorem orow_size (y z : Or) : (orow y).size = (orow z).size := rfl
theorem res15 (tmps : Array Value) (w : World) (R : Nat) (o : Or) (s v : Value) (h4 : tmps.getD 4 undef = .pointer (some ⟨R, 0, none⟩)) (h5 : tmps.getD 5 undef = s) (h6 : tmps.getD 6 undef = v) (hg : w.heap[R]? = some (.cells (orow o) 42 (0, 0))) :
    (results Try.f35 tmps).run Try.prog w = .ok (.tuple #[.agg (orow o), s, v]) w := by
  have hl := run_loadVar_row (P := Try.prog) w R 42 42 (orow o) (0, 0) _ hg Try.underlying42 rfl info50
  simp only [Array.getD_eq_getD_getElem?] at h4 h5 h6
  simp [results, Try.results35, asAddr, hl, h4, h5, h6]
theorem findB_any (B : Nat) (b : Bs) (id : Int) (w : World) (h : Bm w B b) (hn : b.l1.length + b.l2.length ≤ 1048576) :
    Calls Try.prog 35 #[.pointer (some ⟨B, 0, none⟩), .int .u64 id] w fun e w' => e = .returned (.tuple #[.agg (orow (fo b id).1), .int .i64 (fo b id).2.1, .bool (fo b id).2.2]) ∧ Below w.heap.size w w' := by
  obtain ⟨W, hW⟩ : ∃ W, w.alloc (.cells (orow oz) 42) = W := ⟨_, rfl⟩
  have hb : Below w.heap.size w W := by rw [← hW]; exact ball _ _
  have hR : W.heap[w.heap.size]? = some (.cells (orow oz) 42 (0, 0)) := by rw [← hW]; exact World.alloc_heap_new _ _
  have hB := h.on hb
  have c2 := row_cell hB.row 2
  have c3 := row_cell hB.row 3
  simp only [Bs.row, List.getElem?_toArray, List.getElem?_cons_succ, List.getElem?_cons_zero] at c2 c3
  have ix0 : ∀ U, (Instr.index 65 (.agg #[.slice b.p1 b.l1.length b.c1, .slice b.p2 b.l2.length b.c2]) (.int .i64 0)).run Try.prog U = .ok (.slice b.p1 b.l1.length b.c1) U := fun U => index88 _ 0 _ U (by decide) rfl
  have ix1 : ∀ U, (Instr.index 65 (.agg #[.slice b.p1 b.l1.length b.c1, .slice b.p2 b.l2.length b.c2]) (.int .i64 1)).run Try.prog U = .ok (.slice b.p2 b.l2.length b.c2) U := fun U => index88 _ 1 _ U (by decide) rfl
  have C1 := hid (find_any b.p1 b.c1 b.l1 id W hB.li1 (by omega))
  have C2 := hid (fun U (hU : Below W.heap.size W U) => find_any b.p2 b.c2 b.l2 id U (hB.li2.on hU) (by omega))
  have g1 := fnd_ge id b.l1
  have g2 := fnd_ge id b.l2
  have HW := hid hW
  have HB := hid hB
  have HR := hid hR
  have HBW := hid hb
  clear h hW hb hB hR
  by_cases f1 : 0 ≤ fnd id b.l1
  · obtain ⟨i, hi⟩ : ∃ i : Nat, fnd id b.l1 = i := ⟨(fnd id b.l1).toNat, by omega⟩
    have hil : i < b.l1.length := by omega
    have hfo : fo b id = ((b.l1[i]).2, 1, true) := by
      unfold fo
      rw [dif_pos f1]
      simp [hi]
    rw [hfo]
    rw [hi] at C1
    have i0 : (0 : Int) ≤ (i : Int) := by omega
    have i1 : (i : Int) < (b.l1.length : Int) := by omega
    have HC := hid (fun (U : World) (hU : Below W.heap.size W U) => (HB.out.li1.on hU).cell hil)
    have HRU := hid (fun (U : World) (hU : Below W.heap.size W U) => row_on HR.out hU)
    obtain ⟨g, hp, _⟩ := HB.out.li1.cell hil
    obtain ⟨z, hz⟩ : ∃ z, (b.l1[i]).2 = z := ⟨_, rfl⟩
    obtain ⟨bl, hbl⟩ : ∃ z, (b.l1[i]).1 = z := ⟨_, rfl⟩
    rw [hz, hbl] at HC
    rw [hz]
    clear hfo f1 g1 g2 hi hz hbl
    rw [hp] at c2 ix0 ix1 C1 HC
    go_enter Try.func35, Try.ntmps35
    go_upto_region 1 with fail
    have e0 := HW.out
    simp only [orow, oz] at e0
    rw [e0]
    clear e0
    go_wp2_with fail
    refine wp_loop_rounds 3 ?_
    rw [rounds_succ]
    go_wp2_with (first
      | (go_at_call 38; with_reducible refine (C1.out).mono ?_; rintro e w1 ⟨rfl, hb1⟩; obtain ⟨g', hp', hc, hr⟩ := HC.out w1 hb1; simp only [pv] at hc; have hp' := hid hp'; have HRB := hid hr; have HRR := hid (HRU.out w1 hb1); have HB1 := hid hb1; clear hr hb1)
      | (refine wpList_load_row (by rfl) 42 (.tmp 27) (by rfl) bl (by rfl) 42 (orow z) (0, 0) _ HRB.out Try.underlying42 rfl (orow_info z) ?_)
      | (refine wpList_store_row (by rfl) 42 (.tmp 4) (.tmp 28) (by rfl) w.heap.size (orow z) (by rfl) (by rfl) 42 (orow oz) HRR.out (orow_info z) (orow_size oz z) (orow_all z) ?_))
    refine bodyPost_ret (res15 _ _ w.heap.size z (.int .i64 1) (.bool true) (by rfl) (by rfl) (by rfl) (setRow_heap _ _ _ _ 42 (0, 0) HRR.out)) rfl ?_
    refine ⟨by first | rfl | simp, ?_⟩
    exact btr HBW.out HB1.out |>.trans ((setRow_kp _ _ _).below (btr HBW.out HB1.out).size (fun b hb e => by omega))
  · have f1' : fnd id b.l1 = -1 := by omega
    rw [f1'] at C1
    by_cases f2 : 0 ≤ fnd id b.l2
    · obtain ⟨i, hi⟩ : ∃ i : Nat, fnd id b.l2 = i := ⟨(fnd id b.l2).toNat, by omega⟩
      have hil : i < b.l2.length := by omega
      have hfo : fo b id = ((b.l2[i]).2, 2, true) := by
        unfold fo
        rw [dif_neg f1, dif_pos f2]
        simp [hi]
      rw [hfo]
      rw [hi] at C2
      have i0 : (0 : Int) ≤ (i : Int) := by omega
      have i1 : (i : Int) < (b.l2.length : Int) := by omega
      have HC := hid (fun (U : World) (hU : Below W.heap.size W U) => (HB.out.li2.on hU).cell hil)
      have HRU := hid (fun (U : World) (hU : Below W.heap.size W U) => row_on HR.out hU)
      obtain ⟨g, hp, _⟩ := HB.out.li2.cell hil
      obtain ⟨z, hz⟩ : ∃ z, (b.l2[i]).2 = z := ⟨_, rfl⟩
      obtain ⟨bl, hbl⟩ : ∃ z, (b.l2[i]).1 = z := ⟨_, rfl⟩
      rw [hz, hbl] at HC
      rw [hz]
      clear hfo f1 f1' f2 g1 g2 hi hz hbl
      rw [hp] at c3 ix0 ix1 C2 HC
      go_enter Try.func35, Try.ntmps35
      go_upto_region 1 with fail
      have e0 := HW.out
      simp only [orow, oz] at e0
      rw [e0]
      clear e0
      go_wp2_with fail
      refine wp_loop_rounds 3 ?_
      rw [rounds_succ]
      go_wp2_with (first | (go_at_call 38; with_reducible refine (C1.out).mono ?_; rintro e w1 ⟨rfl, hb1⟩; have HB1 := hid hb1; clear hb1))
      rw [rounds_succ]
      go_wp2_with (first
        | (go_at_call 38; with_reducible refine (C2.out _ HB1.out).mono ?_; rintro e w2 ⟨rfl, hb2⟩; obtain ⟨g', hp', hc, hr⟩ := HC.out w2 (btr HB1.out hb2); simp only [pv] at hc; have hp' := hid hp'; have HRB := hid hr; have HRR := hid (HRU.out w2 (btr HB1.out hb2)); have HB2 := hid (btr HB1.out hb2); clear hr hb2)
        | (refine wpList_load_row (by rfl) 42 (.tmp 27) (by rfl) bl (by rfl) 42 (orow z) (0, 0) _ HRB.out Try.underlying42 rfl (orow_info z) ?_)
        | (refine wpList_store_row (by rfl) 42 (.tmp 4) (.tmp 28) (by rfl) w.heap.size (orow z) (by rfl) (by rfl) 42 (orow oz) HRR.out (orow_info z) (orow_size oz z) (orow_all z) ?_))
      refine bodyPost_ret (res15 _ _ w.heap.size z (.int .i64 2) (.bool true) (by rfl) (by rfl) (by rfl) (setRow_heap _ _ _ _ 42 (0, 0) HRR.out)) rfl ?_
      refine ⟨by first | rfl | simp, ?_⟩
      exact btr HBW.out HB2.out |>.trans ((setRow_kp _ _ _).below (btr HBW.out HB2.out).size (fun b hb e => by omega))
    · have f2' : fnd id b.l2 = -1 := by omega
      rw [f2'] at C2
      have hfo : fo b id = (oz, 0, false) := by
        unfold fo
        rw [dif_neg f1, dif_neg f2]
      rw [hfo]
      have HRU := hid (fun (U : World) (hU : Below W.heap.size W U) => row_on HR.out hU)
      clear hfo f1 f1' f2 f2' g1 g2
      go_enter Try.func35, Try.ntmps35
      go_upto_region 1 with fail
      have e0 := HW.out
      simp only [orow, oz] at e0
      rw [e0]
      clear e0
      go_wp2_with fail
      refine wp_loop_rounds 3 ?_
      rw [rounds_succ]
      go_wp2_with (first | (go_at_call 38; with_reducible refine (C1.out).mono ?_; rintro e w1 ⟨rfl, hb1⟩; have HB1 := hid hb1; clear hb1))
      rw [rounds_succ]
      go_wp2_with (first | (go_at_call 38; with_reducible refine (C2.out _ HB1.out).mono ?_; rintro e w2 ⟨rfl, hb2⟩; have HRR := hid (HRU.out w2 (btr HB1.out hb2)); have HB2 := hid (btr HB1.out hb2); clear hb2))
      rw [rounds_succ]
      go_wp2_with (first
        | (refine wpList_store_row (by rfl) 42 (.tmp 4) (.tmp 32) (by rfl) w.heap.size (orow oz) (by rfl) (by rfl) 42 (orow oz) HRR.out (orow_info oz) (orow_size oz oz) (orow_all oz) ?_))
      refine bodyPost_ret (res15 _ _ w.heap.size oz (.int .i64 0) (.bool false) (by rfl) (by rfl) (by rfl) (setRow_heap _ _ _ _ 42 (0, 0) HRR.out)) rfl ?_
      refine ⟨by first | rfl | simp, ?_⟩
      exact btr HBW.out HB2.out |>.trans ((setRow_kp _ _ _).below (btr HBW.out HB2.out).size (fun b hb e => by omega))
end Go.Proofs.Ytfgcfiejkjhebaa
