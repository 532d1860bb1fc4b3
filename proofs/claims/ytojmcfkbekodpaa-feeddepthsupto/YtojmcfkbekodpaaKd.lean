/-
  The book's small calls.
-/
import Derived.Test.YtojmcfkbekodpaaKc
import Derived.Deep.DrawnRows
namespace Go.Proofs.Ytojmcfkbekodpaa
open Go.RowKit Go.Deep Go.Shelf
set_option linter.unusedVariables false
set_option linter.unusedSimpArgs false
set_option maxHeartbeats 4000000
set_option maxRecDepth 100000
def evC (id q r : Int) : Ev := ⟨0, 4, id, 0, 0, 0, 0, 0, 0, q, 0, r, 0⟩
/-- what a call that tells leaves. -/
def Told (w : World) (T B : Nat) (b' : Bs) (ve : Value) (es' : List Ev) (S : Nat → Prop) (w' : World) : Prop :=
  ∃ ve', Tn w' T B b' ve' es' ∧ (∀ j, ve'.ownBlock = some j → ve.ownBlock = some j ∨ w.heap.size ≤ j) ∧ Kp S w w'
theorem end_any (T B : Nat) (b : Bs) (ve : Value) (es : List Ev) (id q r : Int) (w : World) (h : Tn w T B b ve es) (hn : es.length ≤ 17179869184) :
    Calls Try.prog 54 #[.pointer (some ⟨T, 0, none⟩), .int .u64 id, .int .u64 q, .int .i64 r] w fun e w' => e = .returned (.tuple #[]) ∧ Told w T B b.told ve (es ++ [(evC id q r).num (nx b.seq)]) (tfp T B ve) w' := by
  have C := tell_any T B b ve es (evC id q r) w h hn
  simp only [ecs, evC] at C
  have HC := hid C
  clear C h
  go_enter Try.func54, Try.ntmps54
  go_wp2_with (go_at_call 50; with_reducible refine (HC.out).mono ?_; rintro e w1 ⟨rfl, h1⟩)
  go_end0
  exact ⟨rfl, h1⟩
theorem side_any (B k : Nat) (w : World) (hk : k < 2) : Calls Try.prog 35 #[.pointer (some ⟨B, 0, none⟩), .int .i64 ((k : Int) + 1)] w fun e w' => e = .returned (.pointer (some ⟨B, 2 + k, none⟩)) ∧ w' = w := by
  have hh : k = 0 ∨ k = 1 := by omega
  rcases hh with rfl | rfl
  · go_enter Try.func35, Try.ntmps35
    go_wp2
    go_ret
    exact ⟨rfl, rfl⟩
  · go_enter Try.func35, Try.ntmps35
    go_wp2
    go_ret
    exact ⟨rfl, rfl⟩
theorem len_any (B : Nat) (b : Bs) (w : World) (h : Bm w B b) (hn : b.l1.length + b.l2.length ≤ 1048576) : Calls Try.prog 48 #[.pointer (some ⟨B, 0, none⟩)] w fun e w' => e = .returned (.int .i64 ((b.l1.length : Int) + b.l2.length)) ∧ ∃ n, w' = w.drewN n := by
  have c2 := row_cell h.row 2
  have c3 := row_cell h.row 3
  simp only [Bs.row, List.getElem?_toArray, List.getElem?_cons_succ, List.getElem?_cons_zero] at c2 c3
  obtain ⟨n1, e1⟩ : ∃ n, b.l1.length = n := ⟨_, rfl⟩
  obtain ⟨n2, e2⟩ : ∃ n, b.l2.length = n := ⟨_, rfl⟩
  rw [e1] at c2 hn ⊢
  rw [e2] at c3 hn ⊢
  clear h e1 e2
  go_enter Try.func48, Try.ntmps48
  go_wp2
  go_quiet (fail)
  go_wp2
  go_ret
  exact ⟨rfl, _, rfl⟩
def oz : Or := ⟨0, 0, 0, 0, 0, 0, 0⟩
/-- an order and its side, and whether there is one. -/
def fo (b : Bs) (id : Int) : Or × Int × Bool :=
  if h : 0 ≤ fnd id b.l1 then ((b.l1[(fnd id b.l1).toNat]'(by have := fnd_ge id b.l1; omega)).2, 1, true)
  else if h : 0 ≤ fnd id b.l2 then ((b.l2[(fnd id b.l2).toNat]'(by have := fnd_ge id b.l2; omega)).2, 2, true)
  else (oz, 0, false)
theorem index88 (a : Array Value) (i : Nat) (v : Value) (w : World) (hi : i < 2) (hv : a[i]? = some v) : (Instr.index 111 (.agg a) (.int .i64 (i : Int))).run Try.prog w = .ok v w := by
  have u := Try.underlying111
  have a1 := Try.isAgg96
  have z1 := Try.sizeOf96
  simp [Instr.index, asIntOf, run_underlying u, part, a1, z1, hv, hi, Sem.run_bind, Result.andThen]
theorem info50 : (Try.prog.info? 86).map (·.size) = some 7 := by kernel_rfl
theorem orow_info (z : Or) : (Try.prog.info? 86).map (·.size) = some (orow z).size := info50
theorem orow_all (z : Or) : (orow z).all (·.oneCell') = true := by simp [orow, Value.oneCell']
theorem orow_size (y z : Or) : (orow y).size = (orow z).size := rfl
theorem res15 (tmps : Array Value) (w : World) (R : Nat) (o : Or) (s v : Value) (h4 : tmps.getD 4 undef = .pointer (some ⟨R, 0, none⟩)) (h5 : tmps.getD 5 undef = s) (h6 : tmps.getD 6 undef = v) (hg : w.heap[R]? = some (.cells (orow o) 86 (0, 0))) :
    (results Try.f51 tmps).run Try.prog w = .ok (.tuple #[.agg (orow o), s, v]) w := by
  have hl := run_loadVar_row (P := Try.prog) w R 86 86 (orow o) (0, 0) _ hg Try.underlying86 rfl info50
  simp only [Array.getD_eq_getD_getElem?] at h4 h5 h6
  simp [results, Try.results51, asAddr, hl, h4, h5, h6]
theorem findB_any (B : Nat) (b : Bs) (id : Int) (w : World) (h : Bm w B b) (hn : b.l1.length + b.l2.length ≤ 1048576) :
    Calls Try.prog 51 #[.pointer (some ⟨B, 0, none⟩), .int .u64 id] w fun e w' => e = .returned (.tuple #[.agg (orow (fo b id).1), .int .i64 (fo b id).2.1, .bool (fo b id).2.2]) ∧ Below w.heap.size w w' := by
  obtain ⟨W, hW⟩ : ∃ W, w.alloc (.cells (orow oz) 86) = W := ⟨_, rfl⟩
  have hb : Below w.heap.size w W := by rw [← hW]; exact ball _ _
  have hR : W.heap[w.heap.size]? = some (.cells (orow oz) 86 (0, 0)) := by rw [← hW]; exact World.alloc_heap_new _ _
  have hB := h.on hb
  have c2 := row_cell hB.row 2
  have c3 := row_cell hB.row 3
  simp only [Bs.row, List.getElem?_toArray, List.getElem?_cons_succ, List.getElem?_cons_zero] at c2 c3
  have ix0 : ∀ U, (Instr.index 111 (.agg #[.slice b.p1 b.l1.length b.c1, .slice b.p2 b.l2.length b.c2]) (.int .i64 0)).run Try.prog U = .ok (.slice b.p1 b.l1.length b.c1) U := fun U => index88 _ 0 _ U (by decide) rfl
  have ix1 : ∀ U, (Instr.index 111 (.agg #[.slice b.p1 b.l1.length b.c1, .slice b.p2 b.l2.length b.c2]) (.int .i64 1)).run Try.prog U = .ok (.slice b.p2 b.l2.length b.c2) U := fun U => index88 _ 1 _ U (by decide) rfl
  have C1 := hid (find_any b.p1 b.c1 b.l1 id W hB.li1 (by omega))
  have C2 := hid (fun U (hU : Below W.heap.size W U) => find_any b.p2 b.c2 b.l2 id U (hB.li2.on hU) (by omega))
  have g1 := fnd_ge id b.l1
  have g2 := fnd_ge id b.l2
  have HW := hid hW
  have HB := hid hB
  have HR := hid hR
  have HBW := hid hb
  clear h hW hb hB hR
  by_cases f1 : 0 ≤ fnd id b.l1
  · obtain ⟨i, hi⟩ : ∃ i : Nat, fnd id b.l1 = i := ⟨(fnd id b.l1).toNat, by omega⟩
    have hil : i < b.l1.length := by omega
    have hfo : fo b id = ((b.l1[i]).2, 1, true) := by
      unfold fo
      rw [dif_pos f1]
      simp [hi]
    rw [hfo]
    rw [hi] at C1
    have i0 : (0 : Int) ≤ (i : Int) := by omega
    have i1 : (i : Int) < (b.l1.length : Int) := by omega
    have HC := hid (fun (U : World) (hU : Below W.heap.size W U) => (HB.out.li1.on hU).cell hil)
    have HRU := hid (fun (U : World) (hU : Below W.heap.size W U) => row_on HR.out hU)
    obtain ⟨g, hp, _⟩ := HB.out.li1.cell hil
    obtain ⟨z, hz⟩ : ∃ z, (b.l1[i]).2 = z := ⟨_, rfl⟩
    obtain ⟨bl, hbl⟩ : ∃ z, (b.l1[i]).1 = z := ⟨_, rfl⟩
    rw [hz, hbl] at HC
    rw [hz]
    clear hfo f1 g1 g2 hi hz hbl
    rw [hp] at c2 ix0 ix1 C1 HC
    go_enter Try.func51, Try.ntmps51
    go_upto_region 1 with fail
    have e0 := HW.out
    simp only [orow, oz] at e0
    rw [e0]
    clear e0
    go_wp2_with fail
    refine wp_loop_rounds 3 ?_
    rw [rounds_succ]
    go_wp2_with (first
      | (go_at_call 53; with_reducible refine (C1.out).mono ?_; rintro e w1 ⟨rfl, hb1⟩; obtain ⟨g', hp', hc, hr⟩ := HC.out w1 hb1; simp only [pv] at hc; have hp' := hid hp'; have HRB := hid hr; have HRR := hid (HRU.out w1 hb1); have HB1 := hid hb1; clear hr hb1)
      | (refine wpList_load_row (by rfl) 86 (.tmp 27) (by rfl) bl (by rfl) 86 (orow z) (0, 0) _ HRB.out Try.underlying86 rfl (orow_info z) ?_)
      | (refine wpList_store_row (by rfl) 86 (.tmp 4) (.tmp 28) (by rfl) w.heap.size (orow z) (by rfl) (by rfl) 86 (orow oz) HRR.out (orow_info z) (orow_size oz z) (orow_all z) ?_))
    refine bodyPost_ret (res15 _ _ w.heap.size z (.int .i64 1) (.bool true) (by rfl) (by rfl) (by rfl) (setRow_heap _ _ _ _ 86 (0, 0) HRR.out)) rfl ?_
    refine ⟨by first | rfl | simp, ?_⟩
    exact btr HBW.out HB1.out |>.trans ((setRow_kp _ _ _).below (btr HBW.out HB1.out).size (fun b hb e => by omega))
  · have f1' : fnd id b.l1 = -1 := by omega
    rw [f1'] at C1
    by_cases f2 : 0 ≤ fnd id b.l2
    · obtain ⟨i, hi⟩ : ∃ i : Nat, fnd id b.l2 = i := ⟨(fnd id b.l2).toNat, by omega⟩
      have hil : i < b.l2.length := by omega
      have hfo : fo b id = ((b.l2[i]).2, 2, true) := by
        unfold fo
        rw [dif_neg f1, dif_pos f2]
        simp [hi]
      rw [hfo]
      rw [hi] at C2
      have i0 : (0 : Int) ≤ (i : Int) := by omega
      have i1 : (i : Int) < (b.l2.length : Int) := by omega
      have HC := hid (fun (U : World) (hU : Below W.heap.size W U) => (HB.out.li2.on hU).cell hil)
      have HRU := hid (fun (U : World) (hU : Below W.heap.size W U) => row_on HR.out hU)
      obtain ⟨g, hp, _⟩ := HB.out.li2.cell hil
      obtain ⟨z, hz⟩ : ∃ z, (b.l2[i]).2 = z := ⟨_, rfl⟩
      obtain ⟨bl, hbl⟩ : ∃ z, (b.l2[i]).1 = z := ⟨_, rfl⟩
      rw [hz, hbl] at HC
      rw [hz]
      clear hfo f1 f1' f2 g1 g2 hi hz hbl
      rw [hp] at c3 ix0 ix1 C2 HC
      go_enter Try.func51, Try.ntmps51
      go_upto_region 1 with fail
      have e0 := HW.out
      simp only [orow, oz] at e0
      rw [e0]
      clear e0
      go_wp2_with fail
      refine wp_loop_rounds 3 ?_
      rw [rounds_succ]
      go_wp2_with (first | (go_at_call 53; with_reducible refine (C1.out).mono ?_; rintro e w1 ⟨rfl, hb1⟩; have HB1 := hid hb1; clear hb1))
      rw [rounds_succ]
      go_wp2_with (first
        | (go_at_call 53; with_reducible refine (C2.out _ HB1.out).mono ?_; rintro e w2 ⟨rfl, hb2⟩; obtain ⟨g', hp', hc, hr⟩ := HC.out w2 (btr HB1.out hb2); simp only [pv] at hc; have hp' := hid hp'; have HRB := hid hr; have HRR := hid (HRU.out w2 (btr HB1.out hb2)); have HB2 := hid (btr HB1.out hb2); clear hr hb2)
        | (refine wpList_load_row (by rfl) 86 (.tmp 27) (by rfl) bl (by rfl) 86 (orow z) (0, 0) _ HRB.out Try.underlying86 rfl (orow_info z) ?_)
        | (refine wpList_store_row (by rfl) 86 (.tmp 4) (.tmp 28) (by rfl) w.heap.size (orow z) (by rfl) (by rfl) 86 (orow oz) HRR.out (orow_info z) (orow_size oz z) (orow_all z) ?_))
      refine bodyPost_ret (res15 _ _ w.heap.size z (.int .i64 2) (.bool true) (by rfl) (by rfl) (by rfl) (setRow_heap _ _ _ _ 86 (0, 0) HRR.out)) rfl ?_
      refine ⟨by first | rfl | simp, ?_⟩
      exact btr HBW.out HB2.out |>.trans ((setRow_kp _ _ _).below (btr HBW.out HB2.out).size (fun b hb e => by omega))
    · have f2' : fnd id b.l2 = -1 := by omega
      rw [f2'] at C2
      have hfo : fo b id = (oz, 0, false) := by
        unfold fo
        rw [dif_neg f1, dif_neg f2]
      rw [hfo]
      have HRU := hid (fun (U : World) (hU : Below W.heap.size W U) => row_on HR.out hU)
      clear hfo f1 f1' f2 f2' g1 g2
      go_enter Try.func51, Try.ntmps51
      go_upto_region 1 with fail
      have e0 := HW.out
      simp only [orow, oz] at e0
      rw [e0]
      clear e0
      go_wp2_with fail
      refine wp_loop_rounds 3 ?_
      rw [rounds_succ]
      go_wp2_with (first | (go_at_call 53; with_reducible refine (C1.out).mono ?_; rintro e w1 ⟨rfl, hb1⟩; have HB1 := hid hb1; clear hb1))
      rw [rounds_succ]
      go_wp2_with (first | (go_at_call 53; with_reducible refine (C2.out _ HB1.out).mono ?_; rintro e w2 ⟨rfl, hb2⟩; have HRR := hid (HRU.out w2 (btr HB1.out hb2)); have HB2 := hid (btr HB1.out hb2); clear hb2))
      rw [rounds_succ]
      go_wp2_with (first
        | (refine wpList_store_row (by rfl) 86 (.tmp 4) (.tmp 32) (by rfl) w.heap.size (orow oz) (by rfl) (by rfl) 86 (orow oz) HRR.out (orow_info oz) (orow_size oz oz) (orow_all oz) ?_))
      refine bodyPost_ret (res15 _ _ w.heap.size oz (.int .i64 0) (.bool false) (by rfl) (by rfl) (by rfl) (setRow_heap _ _ _ _ 86 (0, 0) HRR.out)) rfl ?_
      refine ⟨by first | rfl | simp, ?_⟩
      exact btr HBW.out HB2.out |>.trans ((setRow_kp _ _ _).below (btr HBW.out HB2.out).size (fun b hb e => by omega))
end Go.Proofs.Ytojmcfkbekodpaa
namespace Go.Proofs.Ytojmcfkbekodpaa
open Go.RowKit Go.Deep Go.Shelf
set_option linter.unusedVariables false
set_option linter.unusedSimpArgs false
set_option maxHeartbeats 4000000
set_option maxRecDepth 100000
attribute [local go_sem ↓] Go.wp_at_zero Go.wp_at_succ
theorem has_any (B : Nat) (b : Bs) (id : Int) (w : World) (h : Bm w B b) (hn : b.l1.length + b.l2.length ≤ 1048576) :
    Calls Try.prog 46 #[.pointer (some ⟨B, 0, none⟩), .int .u64 id] w fun e w' => e = .returned (.bool (fo b id).2.2) ∧ Below w.heap.size w w' := by
  have C := hid (findB_any B b id w h hn)
  obtain ⟨o, s, v, hf⟩ : ∃ o s v, fo b id = (o, s, v) := ⟨_, _, _, rfl⟩
  rw [hf] at C
  rw [hf]
  simp only at C ⊢
  unfold orow at C
  clear h hf
  go_enter Try.func46, Try.ntmps46
  go_wp2_with (go_at_call 51; with_reducible refine (C.out).mono ?_; rintro e w1 ⟨rfl, hb⟩)
  go_ret
  exact ⟨rfl, btr hb (ball _ _)⟩
/-- an order that comes. -/
def crow (o : Or) (s q : Int) : Array Value := #[.int .u64 o.id, .int .u32 o.mb, .int .i64 o.ty, .int .i64 o.pr, .int .u64 o.vi, .int .u64 o.hi, .int .u64 o.pk, .int .i64 s, .int .u64 q]
def rch (o : Or) (s p : Int) : Bool := o.ty == 2 || !btt s p o.pr
theorem reaches_any (o : Or) (s q p : Int) (w : World) : Calls Try.prog 70 #[.agg (crow o s q), .int .i64 p] w fun e w' => e = .returned (.bool (rch o s p)) ∧ Below w.heap.size w w' := by
  have C := hid (fun U => better_any s p o.pr U)
  unfold crow
  by_cases h : o.ty = 2
  · have h1 : (o.ty == 2) = true := by simpa using h
    have hr : rch o s p = true := by simp [rch, h]
    rw [hr]
    go_enter Try.func70, Try.ntmps70
    go_wp2
    go_ret
    exact ⟨rfl, ball _ _⟩
  · have h1 : (o.ty == 2) = false := by simpa using h
    have hr : rch o s p = !btt s p o.pr := by simp [rch, h]
    rw [hr]
    obtain ⟨v, hv⟩ : ∃ v, btt s p o.pr = v := ⟨_, rfl⟩
    rw [hv] at C
    rw [hv]
    go_enter Try.func70, Try.ntmps70
    go_wp2_with (go_at_call 63; with_reducible refine (C.out _).mono ?_; rintro e w1 ⟨rfl, rfl⟩)
    go_ret
    exact ⟨rfl, ball _ _⟩
/-- a side's orders. -/
def Bs.sl (b : Bs) (s : Int) : LO := if s = 1 then b.l1 else b.l2
def Bs.sp (b : Bs) (s : Int) : Option Addr := if s = 1 then b.p1 else b.p2
def Bs.sc (b : Bs) (s : Int) : Nat := if s = 1 then b.c1 else b.c2
theorem Bm.sli {w : World} {B : Nat} {b : Bs} (h : Bm w B b) (s : Int) : Li w (b.sp s) (b.sc s) (b.sl s) := by
  unfold Bs.sp Bs.sc Bs.sl
  split
  · exact h.li1
  · exact h.li2
def mtl (o : Or) (s : Int) : LO → Bool
  | [] => false
  | x :: _ => rch o s x.2.pr
def mts (b : Bs) (o : Or) (s : Int) : Bool := mtl o s (b.sl (oth s))
theorem meets_any (B : Nat) (b : Bs) (o : Or) (s q : Int) (w : World) (h : Bm w B b) (hs : s = 1 ∨ s = 2) (hn : b.l1.length + b.l2.length ≤ 1048576) :
    Calls Try.prog 49 #[.pointer (some ⟨B, 0, none⟩), .agg (crow o s q)] w fun e w' => e = .returned (.bool (mts b o s)) ∧ Below w.heap.size w w' := by
  obtain ⟨W, hW⟩ : ∃ W, w.alloc (.cells (crow o s q) 88) = W := ⟨_, rfl⟩
  have hb : Below w.heap.size w W := by rw [← hW]; exact ball _ _
  have hR : W.heap[w.heap.size]? = some (.cells (crow o s q) 88 (0, 0)) := by rw [← hW]; exact World.alloc_heap_new _ _
  have hB := h.on hb
  obtain ⟨k, hk, hks⟩ : ∃ k : Nat, k < 2 ∧ oth s = (k : Int) + 1 := by
    rcases hs with rfl | rfl
    · exact ⟨1, by decide, rfl⟩
    · exact ⟨0, by decide, rfl⟩
  have cl : W.cell? ⟨B, 2 + k, none⟩ = some (.slice (b.sp (oth s)) (b.sl (oth s)).length (b.sc (oth s))) := by
    rw [row_cell hB.row]
    rcases hs with rfl | rfl
    · obtain rfl : k = 1 := by have : oth 1 = 2 := rfl; omega
      rfl
    · obtain rfl : k = 0 := by have : oth 2 = 1 := rfl; omega
      rfl
  have hli := hB.sli (oth s)
  have c0 := row_cell hR 7
  simp only [crow, List.getElem?_toArray, List.getElem?_cons_succ, List.getElem?_cons_zero] at c0
  have CO := hid (fun U => other_any s U)
  rw [hks] at CO
  have CS := hid (fun U => side_any B k U hk)
  obtain ⟨p, hp⟩ : ∃ p, b.sp (oth s) = p := ⟨_, rfl⟩
  obtain ⟨c, hc⟩ : ∃ p, b.sc (oth s) = p := ⟨_, rfl⟩
  obtain ⟨l, hl⟩ : ∃ p, b.sl (oth s) = p := ⟨_, rfl⟩
  rw [hp, hc, hl] at hli cl
  have HM := hid (show mts b o s = mtl o s l from by unfold mts; rw [hl])
  have HW := hid hW
  have HBW := hid hb
  have HR := hid hR
  clear h hB hW hb hR hs hks hp hc hl
  cases l with
  | nil =>
    simp only [mtl] at HM
    rw [HM.out]
    simp only [List.length_nil] at cl
    go_enter Try.func49, Try.ntmps49
    go_upto_region 1 with fail
    have e0 := HW.out
    rw [e0]
    clear e0
    go_upto_region 2 with (first | (go_at_call 69; with_reducible refine (CO.out _).mono ?_; rintro e w1 ⟨rfl, rfl⟩) | (go_at_call 35; with_reducible refine (CS.out _).mono ?_; rintro e w1 ⟨rfl, rfl⟩))
    go_big_quiet (fail)
    go_wp2
    go_ret
    exact ⟨rfl, btr HBW.out (bdrew _ _)⟩
  | cons x r =>
    obtain ⟨g, hp, hc, hr⟩ := hli.cell (i := 0) (by simp)
    subst hp
    simp only [mtl] at HM
    rw [HM.out]
    have hn0 : (0 : Int) < ((x :: r : LO).length : Int) := by simp
    obtain ⟨m, hm⟩ : ∃ m, (x :: r : LO).length = m := ⟨_, rfl⟩
    rw [hm] at cl hn0
    simp only [List.getElem_cons_zero, pv] at hc hr
    have cx := row_cell hr 3
    have d0 := row_cell HR.out 0
    have d1 := row_cell HR.out 1
    have d2 := row_cell HR.out 2
    have d3 := row_cell HR.out 3
    have d4 := row_cell HR.out 4
    have d5 := row_cell HR.out 5
    have d6 := row_cell HR.out 6
    have d8 := row_cell HR.out 8
    simp only [crow, orow, List.getElem?_toArray, List.getElem?_cons_succ, List.getElem?_cons_zero] at cx d0 d1 d2 d3 d4 d5 d6 d8
    have CR := hid (fun U => reaches_any o s q x.2.pr U)
    unfold crow at CR
    obtain ⟨v, hv⟩ : ∃ v, rch o s x.2.pr = v := ⟨_, rfl⟩
    rw [hv] at CR
    rw [hv]
    have hnm : 0 < m := by omega
    clear hn0
    have HX := hid hr
    have sx := row_lt hr
    have sg : g < W.heap.size := by
      obtain ⟨cur, e⟩ := own_ty hli.own (g := g) rfl
      exact row_lt e
    have sR := row_lt HR.out
    have HKP := hid (fun (U : World) (hU : Below W.heap.size W U) => (show (U.cell? ⟨w.heap.size, 0, none⟩ = some (.int .u64 o.id) ∧ U.cell? ⟨w.heap.size, 1, none⟩ = some (.int .u32 o.mb) ∧ U.cell? ⟨w.heap.size, 2, none⟩ = some (.int .i64 o.ty) ∧ U.cell? ⟨w.heap.size, 3, none⟩ = some (.int .i64 o.pr) ∧ U.cell? ⟨w.heap.size, 4, none⟩ = some (.int .u64 o.vi) ∧ U.cell? ⟨w.heap.size, 5, none⟩ = some (.int .u64 o.hi) ∧ U.cell? ⟨w.heap.size, 6, none⟩ = some (.int .u64 o.pk) ∧ U.cell? ⟨w.heap.size, 7, none⟩ = some (.int .i64 s) ∧ U.cell? ⟨w.heap.size, 8, none⟩ = some (.int .u64 q) ∧ U.cell? ⟨g, 0, none⟩ = some (.pointer (some ⟨x.1, 0, none⟩)) ∧ U.cell? ⟨x.1, 3, none⟩ = some (.int .i64 x.2.pr)) from
      ⟨(hU.cell sR).trans d0, (hU.cell sR).trans d1, (hU.cell sR).trans d2, (hU.cell sR).trans d3, (hU.cell sR).trans d4, (hU.cell sR).trans d5, (hU.cell sR).trans d6, (hU.cell sR).trans c0, (hU.cell sR).trans d8, (hU.cell sg).trans hc, (hU.cell sx).trans cx⟩))
    clear hm hr hli hv
    go_enter Try.func49, Try.ntmps49
    go_upto_region 1 with fail
    have e0 := HW.out
    rw [e0]
    clear e0
    go_upto_region 2 with (first | (go_at_call 69; with_reducible refine (CO.out _).mono ?_; rintro e w1 ⟨rfl, rfl⟩) | (go_at_call 35; with_reducible refine (CS.out _).mono ?_; rintro e w1 ⟨rfl, rfl⟩))
    refine wp_region_held_drew (S := (fun U => U.cell? ⟨w.heap.size, 0, none⟩ = some (.int .u64 o.id) ∧ U.cell? ⟨w.heap.size, 1, none⟩ = some (.int .u32 o.mb) ∧ U.cell? ⟨w.heap.size, 2, none⟩ = some (.int .i64 o.ty) ∧ U.cell? ⟨w.heap.size, 3, none⟩ = some (.int .i64 o.pr) ∧ U.cell? ⟨w.heap.size, 4, none⟩ = some (.int .u64 o.vi) ∧ U.cell? ⟨w.heap.size, 5, none⟩ = some (.int .u64 o.hi) ∧ U.cell? ⟨w.heap.size, 6, none⟩ = some (.int .u64 o.pk) ∧ U.cell? ⟨w.heap.size, 7, none⟩ = some (.int .i64 s) ∧ U.cell? ⟨w.heap.size, 8, none⟩ = some (.int .u64 q) ∧ U.cell? ⟨g, 0, none⟩ = some (.pointer (some ⟨x.1, 0, none⟩)) ∧ U.cell? ⟨x.1, 3, none⟩ = some (.int .i64 x.2.pr))) (by kernel_rfl) ?_ (fun hHeld => ?_)
    · (try dsimp only); (exact HKP.out _ (bdrew1 _))
    refine' wpAnyH_take (i := 0) (oi := _) (v := _) rfl (by kernel_rfl) (by kernel_rfl) (by kernel_rfl) (fun _ _ _ h => h) (Or.inl ⟨by kernel_rfl, ?hyq1⟩) (by assumption) ?restq1
    case hyq1 => (intro w hSw; (try dsimp only at hSw); go_simp; try (with_reducible rfl))
    try simp only [List.getElem_toArray, List.getElem_cons_succ, List.getElem_cons_zero, Act.put, List.setIfInBounds_toArray, List.set_cons_zero, List.set_cons_succ]
    refine' wpAnyH_take (i := 1) (oi := _) (v := _) rfl (by kernel_rfl) (by kernel_rfl) (by kernel_rfl) (fun _ _ _ h => h) (Or.inl ⟨by kernel_rfl, ?hyq2⟩) (by assumption) ?restq2
    case hyq2 => (intro w hSw; (try dsimp only at hSw); go_simp; try (with_reducible rfl))
    try simp only [List.getElem_toArray, List.getElem_cons_succ, List.getElem_cons_zero, Act.put, List.setIfInBounds_toArray, List.set_cons_zero, List.set_cons_succ]
    refine' wpAnyH_take (i := 2) (oi := _) (v := .bool true) rfl (by kernel_rfl) (by kernel_rfl) (by kernel_rfl) (fun _ _ _ h => h) (Or.inl ⟨by kernel_rfl, ?hyq3⟩) (by assumption) ?restq3
    case hyq3 => (intro w hSw; (try dsimp only at hSw); go_simp; try (with_reducible rfl))
    try simp only [List.getElem_toArray, List.getElem_cons_succ, List.getElem_cons_zero, Act.put, List.setIfInBounds_toArray, List.set_cons_zero, List.set_cons_succ]
    refine' wpAnyH_take (i := 3) (oi := _) (v := _) rfl (by kernel_rfl) (by kernel_rfl) (by kernel_rfl) (fun _ _ _ h => h) (Or.inl ⟨by kernel_rfl, ?hyq4⟩) (by assumption) ?restq4
    case hyq4 => (intro w hSw; (try dsimp only at hSw); go_simp; try (with_reducible rfl))
    try simp only [List.getElem_toArray, List.getElem_cons_succ, List.getElem_cons_zero, Act.put, List.setIfInBounds_toArray, List.set_cons_zero, List.set_cons_succ]
    refine' wpAnyH_take (i := 4) (oi := _) (v := _) rfl (by kernel_rfl) (by kernel_rfl) (by kernel_rfl) (fun _ _ _ h => h) (Or.inl ⟨by kernel_rfl, ?hyq5⟩) (by assumption) ?restq5
    case hyq5 => (intro w hSw; (try dsimp only at hSw); go_simp; try (with_reducible rfl))
    try simp only [List.getElem_toArray, List.getElem_cons_succ, List.getElem_cons_zero, Act.put, List.setIfInBounds_toArray, List.set_cons_zero, List.set_cons_succ]
    refine' wpAnyH_take (i := 5) (oi := _) (v := _) rfl (by kernel_rfl) (by kernel_rfl) (by kernel_rfl) (fun _ _ _ h => h) (Or.inl ⟨by kernel_rfl, ?hyq6⟩) (by assumption) ?restq6
    case hyq6 => (intro w hSw; (try dsimp only at hSw); go_simp; try (with_reducible rfl))
    try simp only [List.getElem_toArray, List.getElem_cons_succ, List.getElem_cons_zero, Act.put, List.setIfInBounds_toArray, List.set_cons_zero, List.set_cons_succ]
    refine' wpAnyH_take (i := 6) (oi := _) (v := _) rfl (by kernel_rfl) (by kernel_rfl) (by kernel_rfl) (fun _ _ _ h => h) (Or.inl ⟨by kernel_rfl, ?hyq7⟩) (by assumption) ?restq7
    case hyq7 => (intro w hSw; (try dsimp only at hSw); go_simp; try (with_reducible rfl))
    try simp only [List.getElem_toArray, List.getElem_cons_succ, List.getElem_cons_zero, Act.put, List.setIfInBounds_toArray, List.set_cons_zero, List.set_cons_succ]
    refine' wpAnyH_take (i := 7) (oi := _) (v := _) rfl (by kernel_rfl) (by kernel_rfl) (by kernel_rfl) (fun _ _ _ h => h) (Or.inl ⟨by kernel_rfl, ?hyq8⟩) (by assumption) ?restq8
    case hyq8 => (intro w hSw; (try dsimp only at hSw); go_simp; try (with_reducible rfl))
    try simp only [List.getElem_toArray, List.getElem_cons_succ, List.getElem_cons_zero, Act.put, List.setIfInBounds_toArray, List.set_cons_zero, List.set_cons_succ]
    refine' wpAnyH_take (i := 8) (oi := _) (v := _) rfl (by kernel_rfl) (by kernel_rfl) (by kernel_rfl) (fun _ _ _ h => h) (Or.inl ⟨by kernel_rfl, ?hyq9⟩) (by assumption) ?restq9
    case hyq9 => (intro w hSw; (try dsimp only at hSw); go_simp; try (with_reducible rfl))
    try simp only [List.getElem_toArray, List.getElem_cons_succ, List.getElem_cons_zero, Act.put, List.setIfInBounds_toArray, List.set_cons_zero, List.set_cons_succ]
    refine' wpAnyH_take (i := 9) (oi := _) (v := _) rfl (by kernel_rfl) (by kernel_rfl) (by kernel_rfl) (fun _ _ _ h => h) (Or.inl ⟨by kernel_rfl, ?hyq10⟩) (by assumption) ?restq10
    case hyq10 => (intro w hSw; (try dsimp only at hSw); go_simp; try (with_reducible rfl))
    try simp only [List.getElem_toArray, List.getElem_cons_succ, List.getElem_cons_zero, Act.put, List.setIfInBounds_toArray, List.set_cons_zero, List.set_cons_succ]
    refine' wpAnyH_take (i := 10) (oi := _) (v := _) rfl (by kernel_rfl) (by kernel_rfl) (by kernel_rfl) (fun _ _ _ h => h) (Or.inl ⟨by kernel_rfl, ?hyq11⟩) (by assumption) ?restq11
    case hyq11 => (intro w hSw; (try dsimp only at hSw); go_simp; try (with_reducible rfl))
    try simp only [List.getElem_toArray, List.getElem_cons_succ, List.getElem_cons_zero, Act.put, List.setIfInBounds_toArray, List.set_cons_zero, List.set_cons_succ]
    refine wpAnyH_ready (rs := [11]) (by kernel_rfl) (by simp) ?_
    refine AllReadyH.cons (o := _) rfl (fun K hK => ?_) AllReadyH.nil
    go_simp
    go_at_call 70; with_reducible refine (CR.out _).mono ?_; rintro e w2 ⟨rfl, hb2⟩; have HB2 := hid (btr (bdrew1 _) hb2)
    (try go_wp2_with fail)
    refine hK.out _ _ ?_ (fun hHeld => ?_)
    · (try dsimp only); (exact HKP.out _ HB2.out)
    clear hK K
    try simp only [List.getElem_toArray, List.getElem_cons_succ, List.getElem_cons_zero, Act.put, List.setIfInBounds_toArray, List.set_cons_zero, List.set_cons_succ]
    refine' wpAnyH_take (i := 12) (oi := _) (v := _) rfl (by kernel_rfl) (by kernel_rfl) (by kernel_rfl) (fun _ _ _ h => h) (Or.inl ⟨by kernel_rfl, ?hyq12⟩) (by assumption) ?restq12
    case hyq12 => (intro w hSw; (try dsimp only at hSw); go_simp; try (with_reducible rfl))
    try simp only [List.getElem_toArray, List.getElem_cons_succ, List.getElem_cons_zero, Act.put, List.setIfInBounds_toArray, List.set_cons_zero, List.set_cons_succ]
    refine' wpAnyH_take (i := 13) (oi := _) (v := _) rfl (by kernel_rfl) (by kernel_rfl) (by kernel_rfl) (fun _ _ _ h => h) (Or.inl ⟨by kernel_rfl, ?hyq13⟩) (by assumption) ?restq13
    case hyq13 => (intro w hSw; (try dsimp only at hSw); go_simp; try (with_reducible rfl))
    try simp only [List.getElem_toArray, List.getElem_cons_succ, List.getElem_cons_zero, Act.put, List.setIfInBounds_toArray, List.set_cons_zero, List.set_cons_succ]
    refine wpAnyH_done (by kernel_rfl) ?_ _
    go_wp2
    go_ret
    exact ⟨rfl, btr HBW.out HB2.out⟩
end Go.Proofs.Ytojmcfkbekodpaa
