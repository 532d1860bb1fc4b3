/-
  RuP
-/
import Derived.Test.YtojmcfkbekodpaaHi
namespace Go.Proofs.Ytojmcfkbekodpaa
open Go.RowKit Go.Deep Go.Shelf
set_option linter.unusedVariables false
set_option linter.unusedSimpArgs false
set_option maxHeartbeats 8000000
set_option maxRecDepth 100000
/-- what a command is refused for by a book. -/
def rfs (b : Bs) (c : Cm) : Int :=
  if chk c = 90 then 90
  else if c.kd ≠ 1 ∧ (fo b c.tg).2.2 = false then 91
  else if chk c ≠ 0 ∨ c.kd = 2 then chk c
  else if c.id ≤ b.high then 97
  else if c.kd = 1 ∧ rst (cmN b c).ty = true ∧ b.cap ≤ (b.l1.length : Int) + b.l2.length then 98
  else if (cmN b c).ty = 5 ∧ mts b (ord (cmN b c)) (cmN b c).sd = true then 99
  else 0
/-- what the walk of refusal is told. -/
structure Rf (w : World) (B : Nat) (b : Bs) (c : Cm) (y : Int) (hv : Bool) (o : Or) (s : Int) (rv mv : Bool) (W : World) : Prop where
  bel : Below w.heap.size w W
  r : W.heap[w.heap.size]? = some (.cells (cmr c) 38 (0, 0))
  bm : Bm W B b
  ck : ∀ U, Calls Try.prog 45 #[.agg (cmr c)] U fun e w' => e = .returned (.int .i64 y) ∧ Below U.heap.size U w'
  hs : ∀ U, Below W.heap.size W U → Calls Try.prog 46 #[.pointer (some ⟨B, 0, none⟩), .int .u64 c.tg] U fun e w' => e = .returned (.bool hv) ∧ Below U.heap.size U w'
  od : ∀ U, Below W.heap.size W U → Calls Try.prog 29 #[.pointer (some ⟨B, 0, none⟩), .agg (cmr c)] U fun e w' => e = .returned (.agg (crow o s c.qt)) ∧ Below U.heap.size U w'
  rs : ∀ U, Calls Try.prog 47 #[.int .i64 o.ty] U fun e w' => e = .returned (.bool rv) ∧ w' = U
  ln : ∀ U, Below W.heap.size W U → Calls Try.prog 48 #[.pointer (some ⟨B, 0, none⟩)] U fun e w' => e = .returned (.int .i64 ((b.l1.length : Int) + b.l2.length)) ∧ ∃ n, w' = U.drewN n
  mt : s = 1 ∨ s = 2 → ∀ U, Below W.heap.size W U → Calls Try.prog 49 #[.pointer (some ⟨B, 0, none⟩), .agg (crow o s c.qt)] U fun e w' => e = .returned (.bool mv) ∧ Below U.heap.size U w'
theorem rf_mk (B : Nat) (b : Bs) (c : Cm) (w : World) (h : Bm w B b) (hc : CmOk c) (hn : b.l1.length + b.l2.length ≤ 1048576) :
    Rf w B b c (chk c) (fo b c.tg).2.2 (ord (cmN b c)) (cmN b c).sd (rst (cmN b c).ty) (mts b (ord (cmN b c)) (cmN b c).sd) (w.alloc (.cells (cmr c) 38)) := by
  have hb := ball w (.cells (cmr c) 38)
  have hB := h.on hb
  exact ⟨hb, World.alloc_heap_new _ _, hB, fun U => check_any c U hc, fun U hU => has_any B b c.tg U (hB.on hU) hn, fun U hU => order_any B b c U (hB.on hU) hn, fun U => rests_any _ U, fun U hU => len_any B b U (hB.on hU) hn, fun hs U hU => meets_any B b _ _ _ U (hB.on hU) hs hn⟩
theorem rf90 (B : Nat) (b : Bs) (c : Cm) (w W : World) (y : Int) (hv rv mv : Bool) (o : Or) (s : Int)  (hW : w.alloc (.cells (cmr c) 38) = W) (hF : Rf w B b c 90 hv o s rv mv W) :
    Calls Try.prog 25 #[.pointer (some ⟨B, 0, none⟩), .agg (cmr c)] w fun e w' => e = .returned (.int .i64 90) ∧ Below w.heap.size w w' := by
  have HF := hid hF
  have CK := hid hF.ck
  have CH := hid hF.hs
  have CO := hid hF.od
  have CR := hid hF.rs
  have CL := hid hF.ln
  have CM := hid hF.mt
  have HW := hid hW
  unfold cmr at CK CO HW
  unfold crow at CO CM
  have r0 := row_cell hF.r 0
  have r1 := row_cell hF.r 1
  have r2 := row_cell hF.r 2
  have r3 := row_cell hF.r 3
  have r4 := row_cell hF.r 4
  have r5 := row_cell hF.r 5
  have r6 := row_cell hF.r 6
  have r7 := row_cell hF.r 7
  have r8 := row_cell hF.r 8
  have m0 := row_cell hF.bm.row 0
  have m4 := row_cell hF.bm.row 4
  simp only [cmr, Bs.row, List.getElem?_toArray, List.getElem?_cons_succ, List.getElem?_cons_zero] at r0 r1 r2 r3 r4 r5 r6 r7 r8 m0 m4
  clear hF hW
  unfold cmr
  go_enter Try.func25, Try.ntmps25
  go_upto_region 1 with fail
  rw [HW.out]
  go_wp2_with (first | (go_at_call 45; clear r0 r1 r2 r3 r4 r5 r6 r7 r8 m0 m4; with_reducible refine (CK.out _).mono ?_; rintro e w1 ⟨rfl, hb1⟩; have HB1 := hid hb1; have hRw := row_on HF.out.r HB1.out; have hBw := row_on HF.out.bm.row HB1.out; have r0 := row_cell hRw 0; have r1 := row_cell hRw 1; have r2 := row_cell hRw 2; have r3 := row_cell hRw 3; have r4 := row_cell hRw 4; have r5 := row_cell hRw 5; have r6 := row_cell hRw 6; have r7 := row_cell hRw 7; have r8 := row_cell hRw 8; have m0 := row_cell hBw 0; have m4 := row_cell hBw 4; simp only [cmr, Bs.row, List.getElem?_toArray, List.getElem?_cons_succ, List.getElem?_cons_zero] at r0 r1 r2 r3 r4 r5 r6 r7 r8 m0 m4; clear hRw hBw; clear hb1) | (go_at_call 46; with_reducible refine (CH.out _ HB1.out).mono ?_; rintro e w2 ⟨rfl, hb2⟩; have HB1 := hid (btr HB1.out hb2); clear r0 r1 r2 r3 r4 r5 r6 r7 r8 m0 m4; have hRw := row_on HF.out.r HB1.out; have hBw := row_on HF.out.bm.row HB1.out; have r0 := row_cell hRw 0; have r1 := row_cell hRw 1; have r2 := row_cell hRw 2; have r3 := row_cell hRw 3; have r4 := row_cell hRw 4; have r5 := row_cell hRw 5; have r6 := row_cell hRw 6; have r7 := row_cell hRw 7; have r8 := row_cell hRw 8; have m0 := row_cell hBw 0; have m4 := row_cell hBw 4; simp only [cmr, Bs.row, List.getElem?_toArray, List.getElem?_cons_succ, List.getElem?_cons_zero] at r0 r1 r2 r3 r4 r5 r6 r7 r8 m0 m4; clear hRw hBw; clear hb2))
  go_ret
  exact ⟨rfl, btr HF.out.bel HB1.out⟩
theorem rf91 (B : Nat) (b : Bs) (c : Cm) (w W : World) (y : Int) (hv rv mv : Bool) (o : Or) (s : Int) (y1 : (y == 90) = false) (k1 : (c.kd == 1) = false) (k1' : (c.kd != 1) = true) (hW : w.alloc (.cells (cmr c) 38) = W) (hF : Rf w B b c y false o s rv mv W) :
    Calls Try.prog 25 #[.pointer (some ⟨B, 0, none⟩), .agg (cmr c)] w fun e w' => e = .returned (.int .i64 91) ∧ Below w.heap.size w w' := by
  have HF := hid hF
  have CK := hid hF.ck
  have CH := hid hF.hs
  have CO := hid hF.od
  have CR := hid hF.rs
  have CL := hid hF.ln
  have CM := hid hF.mt
  have HW := hid hW
  unfold cmr at CK CO HW
  unfold crow at CO CM
  have r0 := row_cell hF.r 0
  have r1 := row_cell hF.r 1
  have r2 := row_cell hF.r 2
  have r3 := row_cell hF.r 3
  have r4 := row_cell hF.r 4
  have r5 := row_cell hF.r 5
  have r6 := row_cell hF.r 6
  have r7 := row_cell hF.r 7
  have r8 := row_cell hF.r 8
  have m0 := row_cell hF.bm.row 0
  have m4 := row_cell hF.bm.row 4
  simp only [cmr, Bs.row, List.getElem?_toArray, List.getElem?_cons_succ, List.getElem?_cons_zero] at r0 r1 r2 r3 r4 r5 r6 r7 r8 m0 m4
  clear hF hW
  unfold cmr
  go_enter Try.func25, Try.ntmps25
  go_upto_region 1 with fail
  rw [HW.out]
  go_wp2_with (first | (go_at_call 45; clear r0 r1 r2 r3 r4 r5 r6 r7 r8 m0 m4; with_reducible refine (CK.out _).mono ?_; rintro e w1 ⟨rfl, hb1⟩; have HB1 := hid hb1; have hRw := row_on HF.out.r HB1.out; have hBw := row_on HF.out.bm.row HB1.out; have r0 := row_cell hRw 0; have r1 := row_cell hRw 1; have r2 := row_cell hRw 2; have r3 := row_cell hRw 3; have r4 := row_cell hRw 4; have r5 := row_cell hRw 5; have r6 := row_cell hRw 6; have r7 := row_cell hRw 7; have r8 := row_cell hRw 8; have m0 := row_cell hBw 0; have m4 := row_cell hBw 4; simp only [cmr, Bs.row, List.getElem?_toArray, List.getElem?_cons_succ, List.getElem?_cons_zero] at r0 r1 r2 r3 r4 r5 r6 r7 r8 m0 m4; clear hRw hBw; clear hb1) | (go_at_call 46; with_reducible refine (CH.out _ HB1.out).mono ?_; rintro e w2 ⟨rfl, hb2⟩; have HB1 := hid (btr HB1.out hb2); clear r0 r1 r2 r3 r4 r5 r6 r7 r8 m0 m4; have hRw := row_on HF.out.r HB1.out; have hBw := row_on HF.out.bm.row HB1.out; have r0 := row_cell hRw 0; have r1 := row_cell hRw 1; have r2 := row_cell hRw 2; have r3 := row_cell hRw 3; have r4 := row_cell hRw 4; have r5 := row_cell hRw 5; have r6 := row_cell hRw 6; have r7 := row_cell hRw 7; have r8 := row_cell hRw 8; have m0 := row_cell hBw 0; have m4 := row_cell hBw 4; simp only [cmr, Bs.row, List.getElem?_toArray, List.getElem?_cons_succ, List.getElem?_cons_zero] at r0 r1 r2 r3 r4 r5 r6 r7 r8 m0 m4; clear hRw hBw; clear hb2))
  go_ret
  exact ⟨rfl, btr HF.out.bel HB1.out⟩
theorem rfy1 (B : Nat) (b : Bs) (c : Cm) (w W : World) (y : Int) (hv rv mv : Bool) (o : Or) (s : Int) (y1 : (y == 90) = false) (k1 : (c.kd != 1) = false) (y0 : (y != 0) = true) (hW : w.alloc (.cells (cmr c) 38) = W) (hF : Rf w B b c y hv o s rv mv W) :
    Calls Try.prog 25 #[.pointer (some ⟨B, 0, none⟩), .agg (cmr c)] w fun e w' => e = .returned (.int .i64 y) ∧ Below w.heap.size w w' := by
  have HF := hid hF
  have CK := hid hF.ck
  have CH := hid hF.hs
  have CO := hid hF.od
  have CR := hid hF.rs
  have CL := hid hF.ln
  have CM := hid hF.mt
  have HW := hid hW
  unfold cmr at CK CO HW
  unfold crow at CO CM
  have r0 := row_cell hF.r 0
  have r1 := row_cell hF.r 1
  have r2 := row_cell hF.r 2
  have r3 := row_cell hF.r 3
  have r4 := row_cell hF.r 4
  have r5 := row_cell hF.r 5
  have r6 := row_cell hF.r 6
  have r7 := row_cell hF.r 7
  have r8 := row_cell hF.r 8
  have m0 := row_cell hF.bm.row 0
  have m4 := row_cell hF.bm.row 4
  simp only [cmr, Bs.row, List.getElem?_toArray, List.getElem?_cons_succ, List.getElem?_cons_zero] at r0 r1 r2 r3 r4 r5 r6 r7 r8 m0 m4
  clear hF hW
  unfold cmr
  go_enter Try.func25, Try.ntmps25
  go_upto_region 1 with fail
  rw [HW.out]
  go_wp2_with (first | (go_at_call 45; clear r0 r1 r2 r3 r4 r5 r6 r7 r8 m0 m4; with_reducible refine (CK.out _).mono ?_; rintro e w1 ⟨rfl, hb1⟩; have HB1 := hid hb1; have hRw := row_on HF.out.r HB1.out; have hBw := row_on HF.out.bm.row HB1.out; have r0 := row_cell hRw 0; have r1 := row_cell hRw 1; have r2 := row_cell hRw 2; have r3 := row_cell hRw 3; have r4 := row_cell hRw 4; have r5 := row_cell hRw 5; have r6 := row_cell hRw 6; have r7 := row_cell hRw 7; have r8 := row_cell hRw 8; have m0 := row_cell hBw 0; have m4 := row_cell hBw 4; simp only [cmr, Bs.row, List.getElem?_toArray, List.getElem?_cons_succ, List.getElem?_cons_zero] at r0 r1 r2 r3 r4 r5 r6 r7 r8 m0 m4; clear hRw hBw; clear hb1) | (go_at_call 46; with_reducible refine (CH.out _ HB1.out).mono ?_; rintro e w2 ⟨rfl, hb2⟩; have HB1 := hid (btr HB1.out hb2); clear r0 r1 r2 r3 r4 r5 r6 r7 r8 m0 m4; have hRw := row_on HF.out.r HB1.out; have hBw := row_on HF.out.bm.row HB1.out; have r0 := row_cell hRw 0; have r1 := row_cell hRw 1; have r2 := row_cell hRw 2; have r3 := row_cell hRw 3; have r4 := row_cell hRw 4; have r5 := row_cell hRw 5; have r6 := row_cell hRw 6; have r7 := row_cell hRw 7; have r8 := row_cell hRw 8; have m0 := row_cell hBw 0; have m4 := row_cell hBw 4; simp only [cmr, Bs.row, List.getElem?_toArray, List.getElem?_cons_succ, List.getElem?_cons_zero] at r0 r1 r2 r3 r4 r5 r6 r7 r8 m0 m4; clear hRw hBw; clear hb2))
  go_ret
  exact ⟨rfl, btr HF.out.bel HB1.out⟩
theorem rfy2 (B : Nat) (b : Bs) (c : Cm) (w W : World) (y : Int) (hv rv mv : Bool) (o : Or) (s : Int) (y1 : (y == 90) = false) (k1 : (c.kd != 1) = true) (y0 : (y != 0) = true) (hW : w.alloc (.cells (cmr c) 38) = W) (hF : Rf w B b c y true o s rv mv W) :
    Calls Try.prog 25 #[.pointer (some ⟨B, 0, none⟩), .agg (cmr c)] w fun e w' => e = .returned (.int .i64 y) ∧ Below w.heap.size w w' := by
  have HF := hid hF
  have CK := hid hF.ck
  have CH := hid hF.hs
  have CO := hid hF.od
  have CR := hid hF.rs
  have CL := hid hF.ln
  have CM := hid hF.mt
  have HW := hid hW
  unfold cmr at CK CO HW
  unfold crow at CO CM
  have r0 := row_cell hF.r 0
  have r1 := row_cell hF.r 1
  have r2 := row_cell hF.r 2
  have r3 := row_cell hF.r 3
  have r4 := row_cell hF.r 4
  have r5 := row_cell hF.r 5
  have r6 := row_cell hF.r 6
  have r7 := row_cell hF.r 7
  have r8 := row_cell hF.r 8
  have m0 := row_cell hF.bm.row 0
  have m4 := row_cell hF.bm.row 4
  simp only [cmr, Bs.row, List.getElem?_toArray, List.getElem?_cons_succ, List.getElem?_cons_zero] at r0 r1 r2 r3 r4 r5 r6 r7 r8 m0 m4
  clear hF hW
  unfold cmr
  go_enter Try.func25, Try.ntmps25
  go_upto_region 1 with fail
  rw [HW.out]
  go_wp2_with (first | (go_at_call 45; clear r0 r1 r2 r3 r4 r5 r6 r7 r8 m0 m4; with_reducible refine (CK.out _).mono ?_; rintro e w1 ⟨rfl, hb1⟩; have HB1 := hid hb1; have hRw := row_on HF.out.r HB1.out; have hBw := row_on HF.out.bm.row HB1.out; have r0 := row_cell hRw 0; have r1 := row_cell hRw 1; have r2 := row_cell hRw 2; have r3 := row_cell hRw 3; have r4 := row_cell hRw 4; have r5 := row_cell hRw 5; have r6 := row_cell hRw 6; have r7 := row_cell hRw 7; have r8 := row_cell hRw 8; have m0 := row_cell hBw 0; have m4 := row_cell hBw 4; simp only [cmr, Bs.row, List.getElem?_toArray, List.getElem?_cons_succ, List.getElem?_cons_zero] at r0 r1 r2 r3 r4 r5 r6 r7 r8 m0 m4; clear hRw hBw; clear hb1) | (go_at_call 46; with_reducible refine (CH.out _ HB1.out).mono ?_; rintro e w2 ⟨rfl, hb2⟩; have HB1 := hid (btr HB1.out hb2); clear r0 r1 r2 r3 r4 r5 r6 r7 r8 m0 m4; have hRw := row_on HF.out.r HB1.out; have hBw := row_on HF.out.bm.row HB1.out; have r0 := row_cell hRw 0; have r1 := row_cell hRw 1; have r2 := row_cell hRw 2; have r3 := row_cell hRw 3; have r4 := row_cell hRw 4; have r5 := row_cell hRw 5; have r6 := row_cell hRw 6; have r7 := row_cell hRw 7; have r8 := row_cell hRw 8; have m0 := row_cell hBw 0; have m4 := row_cell hBw 4; simp only [cmr, Bs.row, List.getElem?_toArray, List.getElem?_cons_succ, List.getElem?_cons_zero] at r0 r1 r2 r3 r4 r5 r6 r7 r8 m0 m4; clear hRw hBw; clear hb2))
  go_ret
  exact ⟨rfl, btr HF.out.bel HB1.out⟩
theorem rfc (B : Nat) (b : Bs) (c : Cm) (w W : World) (y : Int) (hv rv mv : Bool) (o : Or) (s : Int) (k1 : (c.kd != 1) = true) (k2 : (c.kd == 2) = true) (hW : w.alloc (.cells (cmr c) 38) = W) (hF : Rf w B b c 0 true o s rv mv W) :
    Calls Try.prog 25 #[.pointer (some ⟨B, 0, none⟩), .agg (cmr c)] w fun e w' => e = .returned (.int .i64 0) ∧ Below w.heap.size w w' := by
  have HF := hid hF
  have CK := hid hF.ck
  have CH := hid hF.hs
  have CO := hid hF.od
  have CR := hid hF.rs
  have CL := hid hF.ln
  have CM := hid hF.mt
  have HW := hid hW
  unfold cmr at CK CO HW
  unfold crow at CO CM
  have r0 := row_cell hF.r 0
  have r1 := row_cell hF.r 1
  have r2 := row_cell hF.r 2
  have r3 := row_cell hF.r 3
  have r4 := row_cell hF.r 4
  have r5 := row_cell hF.r 5
  have r6 := row_cell hF.r 6
  have r7 := row_cell hF.r 7
  have r8 := row_cell hF.r 8
  have m0 := row_cell hF.bm.row 0
  have m4 := row_cell hF.bm.row 4
  simp only [cmr, Bs.row, List.getElem?_toArray, List.getElem?_cons_succ, List.getElem?_cons_zero] at r0 r1 r2 r3 r4 r5 r6 r7 r8 m0 m4
  clear hF hW
  unfold cmr
  go_enter Try.func25, Try.ntmps25
  go_upto_region 1 with fail
  rw [HW.out]
  go_wp2_with (first | (go_at_call 45; clear r0 r1 r2 r3 r4 r5 r6 r7 r8 m0 m4; with_reducible refine (CK.out _).mono ?_; rintro e w1 ⟨rfl, hb1⟩; have HB1 := hid hb1; have hRw := row_on HF.out.r HB1.out; have hBw := row_on HF.out.bm.row HB1.out; have r0 := row_cell hRw 0; have r1 := row_cell hRw 1; have r2 := row_cell hRw 2; have r3 := row_cell hRw 3; have r4 := row_cell hRw 4; have r5 := row_cell hRw 5; have r6 := row_cell hRw 6; have r7 := row_cell hRw 7; have r8 := row_cell hRw 8; have m0 := row_cell hBw 0; have m4 := row_cell hBw 4; simp only [cmr, Bs.row, List.getElem?_toArray, List.getElem?_cons_succ, List.getElem?_cons_zero] at r0 r1 r2 r3 r4 r5 r6 r7 r8 m0 m4; clear hRw hBw; clear hb1) | (go_at_call 46; with_reducible refine (CH.out _ HB1.out).mono ?_; rintro e w2 ⟨rfl, hb2⟩; have HB1 := hid (btr HB1.out hb2); clear r0 r1 r2 r3 r4 r5 r6 r7 r8 m0 m4; have hRw := row_on HF.out.r HB1.out; have hBw := row_on HF.out.bm.row HB1.out; have r0 := row_cell hRw 0; have r1 := row_cell hRw 1; have r2 := row_cell hRw 2; have r3 := row_cell hRw 3; have r4 := row_cell hRw 4; have r5 := row_cell hRw 5; have r6 := row_cell hRw 6; have r7 := row_cell hRw 7; have r8 := row_cell hRw 8; have m0 := row_cell hBw 0; have m4 := row_cell hBw 4; simp only [cmr, Bs.row, List.getElem?_toArray, List.getElem?_cons_succ, List.getElem?_cons_zero] at r0 r1 r2 r3 r4 r5 r6 r7 r8 m0 m4; clear hRw hBw; clear hb2))
  go_ret
  exact ⟨rfl, btr HF.out.bel HB1.out⟩
theorem rf97a (B : Nat) (b : Bs) (c : Cm) (w W : World) (y : Int) (hv rv mv : Bool) (o : Or) (s : Int) (k1 : (c.kd != 1) = false) (k2 : (c.kd == 2) = false) (hi : c.id ≤ b.high) (hW : w.alloc (.cells (cmr c) 38) = W) (hF : Rf w B b c 0 hv o s rv mv W) :
    Calls Try.prog 25 #[.pointer (some ⟨B, 0, none⟩), .agg (cmr c)] w fun e w' => e = .returned (.int .i64 97) ∧ Below w.heap.size w w' := by
  have HF := hid hF
  have CK := hid hF.ck
  have CH := hid hF.hs
  have CO := hid hF.od
  have CR := hid hF.rs
  have CL := hid hF.ln
  have CM := hid hF.mt
  have HW := hid hW
  unfold cmr at CK CO HW
  unfold crow at CO CM
  have r0 := row_cell hF.r 0
  have r1 := row_cell hF.r 1
  have r2 := row_cell hF.r 2
  have r3 := row_cell hF.r 3
  have r4 := row_cell hF.r 4
  have r5 := row_cell hF.r 5
  have r6 := row_cell hF.r 6
  have r7 := row_cell hF.r 7
  have r8 := row_cell hF.r 8
  have m0 := row_cell hF.bm.row 0
  have m4 := row_cell hF.bm.row 4
  simp only [cmr, Bs.row, List.getElem?_toArray, List.getElem?_cons_succ, List.getElem?_cons_zero] at r0 r1 r2 r3 r4 r5 r6 r7 r8 m0 m4
  clear hF hW
  unfold cmr
  go_enter Try.func25, Try.ntmps25
  go_upto_region 1 with fail
  rw [HW.out]
  go_upto_region 8 with (first | (go_at_call 45; clear r0 r1 r2 r3 r4 r5 r6 r7 r8 m0 m4; with_reducible refine (CK.out _).mono ?_; rintro e w1 ⟨rfl, hb1⟩; have HB1 := hid hb1; have hRw := row_on HF.out.r HB1.out; have hBw := row_on HF.out.bm.row HB1.out; have r0 := row_cell hRw 0; have r1 := row_cell hRw 1; have r2 := row_cell hRw 2; have r3 := row_cell hRw 3; have r4 := row_cell hRw 4; have r5 := row_cell hRw 5; have r6 := row_cell hRw 6; have r7 := row_cell hRw 7; have r8 := row_cell hRw 8; have m0 := row_cell hBw 0; have m4 := row_cell hBw 4; simp only [cmr, Bs.row, List.getElem?_toArray, List.getElem?_cons_succ, List.getElem?_cons_zero] at r0 r1 r2 r3 r4 r5 r6 r7 r8 m0 m4; clear hRw hBw; clear hb1) | (go_at_call 46; with_reducible refine (CH.out _ HB1.out).mono ?_; rintro e w2 ⟨rfl, hb2⟩; have HB1 := hid (btr HB1.out hb2); clear r0 r1 r2 r3 r4 r5 r6 r7 r8 m0 m4; have hRw := row_on HF.out.r HB1.out; have hBw := row_on HF.out.bm.row HB1.out; have r0 := row_cell hRw 0; have r1 := row_cell hRw 1; have r2 := row_cell hRw 2; have r3 := row_cell hRw 3; have r4 := row_cell hRw 4; have r5 := row_cell hRw 5; have r6 := row_cell hRw 6; have r7 := row_cell hRw 7; have r8 := row_cell hRw 8; have m0 := row_cell hBw 0; have m4 := row_cell hBw 4; simp only [cmr, Bs.row, List.getElem?_toArray, List.getElem?_cons_succ, List.getElem?_cons_zero] at r0 r1 r2 r3 r4 r5 r6 r7 r8 m0 m4; clear hRw hBw; clear hb2))
  go_quiet (fail)
  go_wp2
  go_ret
  exact ⟨rfl, btr (btr HF.out.bel HB1.out) (bdrew _ _)⟩
theorem rf97b (B : Nat) (b : Bs) (c : Cm) (w W : World) (y : Int) (hv rv mv : Bool) (o : Or) (s : Int) (k1 : (c.kd != 1) = true) (k2 : (c.kd == 2) = false) (hi : c.id ≤ b.high) (hW : w.alloc (.cells (cmr c) 38) = W) (hF : Rf w B b c 0 true o s rv mv W) :
    Calls Try.prog 25 #[.pointer (some ⟨B, 0, none⟩), .agg (cmr c)] w fun e w' => e = .returned (.int .i64 97) ∧ Below w.heap.size w w' := by
  have HF := hid hF
  have CK := hid hF.ck
  have CH := hid hF.hs
  have CO := hid hF.od
  have CR := hid hF.rs
  have CL := hid hF.ln
  have CM := hid hF.mt
  have HW := hid hW
  unfold cmr at CK CO HW
  unfold crow at CO CM
  have r0 := row_cell hF.r 0
  have r1 := row_cell hF.r 1
  have r2 := row_cell hF.r 2
  have r3 := row_cell hF.r 3
  have r4 := row_cell hF.r 4
  have r5 := row_cell hF.r 5
  have r6 := row_cell hF.r 6
  have r7 := row_cell hF.r 7
  have r8 := row_cell hF.r 8
  have m0 := row_cell hF.bm.row 0
  have m4 := row_cell hF.bm.row 4
  simp only [cmr, Bs.row, List.getElem?_toArray, List.getElem?_cons_succ, List.getElem?_cons_zero] at r0 r1 r2 r3 r4 r5 r6 r7 r8 m0 m4
  clear hF hW
  unfold cmr
  go_enter Try.func25, Try.ntmps25
  go_upto_region 1 with fail
  rw [HW.out]
  go_upto_region 8 with (first | (go_at_call 45; clear r0 r1 r2 r3 r4 r5 r6 r7 r8 m0 m4; with_reducible refine (CK.out _).mono ?_; rintro e w1 ⟨rfl, hb1⟩; have HB1 := hid hb1; have hRw := row_on HF.out.r HB1.out; have hBw := row_on HF.out.bm.row HB1.out; have r0 := row_cell hRw 0; have r1 := row_cell hRw 1; have r2 := row_cell hRw 2; have r3 := row_cell hRw 3; have r4 := row_cell hRw 4; have r5 := row_cell hRw 5; have r6 := row_cell hRw 6; have r7 := row_cell hRw 7; have r8 := row_cell hRw 8; have m0 := row_cell hBw 0; have m4 := row_cell hBw 4; simp only [cmr, Bs.row, List.getElem?_toArray, List.getElem?_cons_succ, List.getElem?_cons_zero] at r0 r1 r2 r3 r4 r5 r6 r7 r8 m0 m4; clear hRw hBw; clear hb1) | (go_at_call 46; with_reducible refine (CH.out _ HB1.out).mono ?_; rintro e w2 ⟨rfl, hb2⟩; have HB1 := hid (btr HB1.out hb2); clear r0 r1 r2 r3 r4 r5 r6 r7 r8 m0 m4; have hRw := row_on HF.out.r HB1.out; have hBw := row_on HF.out.bm.row HB1.out; have r0 := row_cell hRw 0; have r1 := row_cell hRw 1; have r2 := row_cell hRw 2; have r3 := row_cell hRw 3; have r4 := row_cell hRw 4; have r5 := row_cell hRw 5; have r6 := row_cell hRw 6; have r7 := row_cell hRw 7; have r8 := row_cell hRw 8; have m0 := row_cell hBw 0; have m4 := row_cell hBw 4; simp only [cmr, Bs.row, List.getElem?_toArray, List.getElem?_cons_succ, List.getElem?_cons_zero] at r0 r1 r2 r3 r4 r5 r6 r7 r8 m0 m4; clear hRw hBw; clear hb2))
  go_quiet (fail)
  go_wp2
  go_ret
  exact ⟨rfl, btr (btr HF.out.bel HB1.out) (bdrew _ _)⟩
theorem rf98 (B : Nat) (b : Bs) (c : Cm) (w W : World) (y : Int) (hv rv mv : Bool) (o : Or) (s : Int) (k1 : (c.kd != 1) = false) (k1' : (c.kd == 1) = true) (k2 : (c.kd == 2) = false) (hi : ¬ c.id ≤ b.high) (fu : b.cap ≤ (b.l1.length : Int) + b.l2.length) (hW : w.alloc (.cells (cmr c) 38) = W) (hF : Rf w B b c 0 hv o s true mv W) :
    Calls Try.prog 25 #[.pointer (some ⟨B, 0, none⟩), .agg (cmr c)] w fun e w' => e = .returned (.int .i64 98) ∧ Below w.heap.size w w' := by
  have HF := hid hF
  have CK := hid hF.ck
  have CH := hid hF.hs
  have CO := hid hF.od
  have CR := hid hF.rs
  have CL := hid hF.ln
  have CM := hid hF.mt
  have HW := hid hW
  unfold cmr at CK CO HW
  unfold crow at CO CM
  have r0 := row_cell hF.r 0
  have r1 := row_cell hF.r 1
  have r2 := row_cell hF.r 2
  have r3 := row_cell hF.r 3
  have r4 := row_cell hF.r 4
  have r5 := row_cell hF.r 5
  have r6 := row_cell hF.r 6
  have r7 := row_cell hF.r 7
  have r8 := row_cell hF.r 8
  have m0 := row_cell hF.bm.row 0
  have m4 := row_cell hF.bm.row 4
  simp only [cmr, Bs.row, List.getElem?_toArray, List.getElem?_cons_succ, List.getElem?_cons_zero] at r0 r1 r2 r3 r4 r5 r6 r7 r8 m0 m4
  clear hF hW
  unfold cmr
  go_enter Try.func25, Try.ntmps25
  go_upto_region 1 with fail
  rw [HW.out]
  go_upto_region 8 with (first | (go_at_call 45; clear r0 r1 r2 r3 r4 r5 r6 r7 r8 m0 m4; with_reducible refine (CK.out _).mono ?_; rintro e w1 ⟨rfl, hb1⟩; have HB1 := hid hb1; have hRw := row_on HF.out.r HB1.out; have hBw := row_on HF.out.bm.row HB1.out; have r0 := row_cell hRw 0; have r1 := row_cell hRw 1; have r2 := row_cell hRw 2; have r3 := row_cell hRw 3; have r4 := row_cell hRw 4; have r5 := row_cell hRw 5; have r6 := row_cell hRw 6; have r7 := row_cell hRw 7; have r8 := row_cell hRw 8; have m0 := row_cell hBw 0; have m4 := row_cell hBw 4; simp only [cmr, Bs.row, List.getElem?_toArray, List.getElem?_cons_succ, List.getElem?_cons_zero] at r0 r1 r2 r3 r4 r5 r6 r7 r8 m0 m4; clear hRw hBw; clear hb1) | (go_at_call 46; with_reducible refine (CH.out _ HB1.out).mono ?_; rintro e w2 ⟨rfl, hb2⟩; have HB1 := hid (btr HB1.out hb2); clear r0 r1 r2 r3 r4 r5 r6 r7 r8 m0 m4; have hRw := row_on HF.out.r HB1.out; have hBw := row_on HF.out.bm.row HB1.out; have r0 := row_cell hRw 0; have r1 := row_cell hRw 1; have r2 := row_cell hRw 2; have r3 := row_cell hRw 3; have r4 := row_cell hRw 4; have r5 := row_cell hRw 5; have r6 := row_cell hRw 6; have r7 := row_cell hRw 7; have r8 := row_cell hRw 8; have m0 := row_cell hBw 0; have m4 := row_cell hBw 4; simp only [cmr, Bs.row, List.getElem?_toArray, List.getElem?_cons_succ, List.getElem?_cons_zero] at r0 r1 r2 r3 r4 r5 r6 r7 r8 m0 m4; clear hRw hBw; clear hb2))
  go_quiet (fail)
  go_upto_region 11 with (first | (go_at_call 29; with_reducible refine (CO.out _ (btr HB1.out (by first | exact bdrew _ _ | exact bdrew1 _))).mono ?_; rintro e w3 ⟨rfl, hb3⟩; have HB3 := hid (btr (btr HB1.out (by first | exact bdrew _ _ | exact bdrew1 _)) hb3); clear hb3))
  obtain ⟨W3, hW3⟩ : ∃ W3, w3.alloc (.cells #[.int .u64 o.id, .int .u32 o.mb, .int .i64 o.ty, .int .i64 o.pr, .int .u64 o.vi, .int .u64 o.hi, .int .u64 o.pk, .int .i64 s, .int .u64 c.qt] 88) = W3 := ⟨_, rfl⟩
  have HB4 := hid (show Below W.heap.size W W3 from by rw [← hW3]; exact btr HB3.out (ball _ _))
  have hO := (show W3.heap[w3.heap.size]? = some (.cells #[.int .u64 o.id, .int .u32 o.mb, .int .i64 o.ty, .int .i64 o.pr, .int .u64 o.vi, .int .u64 o.hi, .int .u64 o.pk, .int .i64 s, .int .u64 c.qt] 88 (0, 0)) from by rw [← hW3]; exact World.alloc_heap_new _ _)
  rw [hW3]
  clear hW3 r0 r1 r2 r3 r4 r5 r6 r7 r8 m0 m4
  have HO := hid hO
  have hRw := row_on HF.out.r HB4.out
  have hBw := row_on HF.out.bm.row HB4.out
  have r0 := row_cell hRw 0
  have m0 := row_cell hBw 0
  have o2 := row_cell hO 2
  simp only [cmr, Bs.row, List.getElem?_toArray, List.getElem?_cons_succ, List.getElem?_cons_zero] at r0 m0 o2
  clear hRw hBw hO
  have CLL := hid (fun n => CL.out (W3.drewN n) (btr HB4.out (bdrew _ _)))
  go_quiet ((first | (go_at_call 47; exact Calls.quiet_of_same (CR.out _)) | (go_at_call 48; exact Calls.quiet_of (CLL.out _))))
  go_wp2
  go_ret
  exact ⟨rfl, btr (btr HF.out.bel HB4.out) (bdrew _ _)⟩
theorem rfa1 (B : Nat) (b : Bs) (c : Cm) (w W : World) (y : Int) (hv rv mv : Bool) (o : Or) (s : Int) (k1 : (c.kd != 1) = false) (k1' : (c.kd == 1) = true) (k2 : (c.kd == 2) = false) (hi : ¬ c.id ≤ b.high) (t5 : (o.ty == 5) = false) (hW : w.alloc (.cells (cmr c) 38) = W) (hF : Rf w B b c 0 hv o s false mv W) :
    Calls Try.prog 25 #[.pointer (some ⟨B, 0, none⟩), .agg (cmr c)] w fun e w' => e = .returned (.int .i64 0) ∧ Below w.heap.size w w' := by
  have HF := hid hF
  have CK := hid hF.ck
  have CH := hid hF.hs
  have CO := hid hF.od
  have CR := hid hF.rs
  have CL := hid hF.ln
  have CM := hid hF.mt
  have HW := hid hW
  unfold cmr at CK CO HW
  unfold crow at CO CM
  have r0 := row_cell hF.r 0
  have r1 := row_cell hF.r 1
  have r2 := row_cell hF.r 2
  have r3 := row_cell hF.r 3
  have r4 := row_cell hF.r 4
  have r5 := row_cell hF.r 5
  have r6 := row_cell hF.r 6
  have r7 := row_cell hF.r 7
  have r8 := row_cell hF.r 8
  have m0 := row_cell hF.bm.row 0
  have m4 := row_cell hF.bm.row 4
  simp only [cmr, Bs.row, List.getElem?_toArray, List.getElem?_cons_succ, List.getElem?_cons_zero] at r0 r1 r2 r3 r4 r5 r6 r7 r8 m0 m4
  clear hF hW
  unfold cmr
  go_enter Try.func25, Try.ntmps25
  go_upto_region 1 with fail
  rw [HW.out]
  go_upto_region 8 with (first | (go_at_call 45; clear r0 r1 r2 r3 r4 r5 r6 r7 r8 m0 m4; with_reducible refine (CK.out _).mono ?_; rintro e w1 ⟨rfl, hb1⟩; have HB1 := hid hb1; have hRw := row_on HF.out.r HB1.out; have hBw := row_on HF.out.bm.row HB1.out; have r0 := row_cell hRw 0; have r1 := row_cell hRw 1; have r2 := row_cell hRw 2; have r3 := row_cell hRw 3; have r4 := row_cell hRw 4; have r5 := row_cell hRw 5; have r6 := row_cell hRw 6; have r7 := row_cell hRw 7; have r8 := row_cell hRw 8; have m0 := row_cell hBw 0; have m4 := row_cell hBw 4; simp only [cmr, Bs.row, List.getElem?_toArray, List.getElem?_cons_succ, List.getElem?_cons_zero] at r0 r1 r2 r3 r4 r5 r6 r7 r8 m0 m4; clear hRw hBw; clear hb1) | (go_at_call 46; with_reducible refine (CH.out _ HB1.out).mono ?_; rintro e w2 ⟨rfl, hb2⟩; have HB1 := hid (btr HB1.out hb2); clear r0 r1 r2 r3 r4 r5 r6 r7 r8 m0 m4; have hRw := row_on HF.out.r HB1.out; have hBw := row_on HF.out.bm.row HB1.out; have r0 := row_cell hRw 0; have r1 := row_cell hRw 1; have r2 := row_cell hRw 2; have r3 := row_cell hRw 3; have r4 := row_cell hRw 4; have r5 := row_cell hRw 5; have r6 := row_cell hRw 6; have r7 := row_cell hRw 7; have r8 := row_cell hRw 8; have m0 := row_cell hBw 0; have m4 := row_cell hBw 4; simp only [cmr, Bs.row, List.getElem?_toArray, List.getElem?_cons_succ, List.getElem?_cons_zero] at r0 r1 r2 r3 r4 r5 r6 r7 r8 m0 m4; clear hRw hBw; clear hb2))
  go_quiet (fail)
  go_upto_region 11 with (first | (go_at_call 29; with_reducible refine (CO.out _ (btr HB1.out (by first | exact bdrew _ _ | exact bdrew1 _))).mono ?_; rintro e w3 ⟨rfl, hb3⟩; have HB3 := hid (btr (btr HB1.out (by first | exact bdrew _ _ | exact bdrew1 _)) hb3); clear hb3))
  obtain ⟨W3, hW3⟩ : ∃ W3, w3.alloc (.cells #[.int .u64 o.id, .int .u32 o.mb, .int .i64 o.ty, .int .i64 o.pr, .int .u64 o.vi, .int .u64 o.hi, .int .u64 o.pk, .int .i64 s, .int .u64 c.qt] 88) = W3 := ⟨_, rfl⟩
  have HB4 := hid (show Below W.heap.size W W3 from by rw [← hW3]; exact btr HB3.out (ball _ _))
  have hO := (show W3.heap[w3.heap.size]? = some (.cells #[.int .u64 o.id, .int .u32 o.mb, .int .i64 o.ty, .int .i64 o.pr, .int .u64 o.vi, .int .u64 o.hi, .int .u64 o.pk, .int .i64 s, .int .u64 c.qt] 88 (0, 0)) from by rw [← hW3]; exact World.alloc_heap_new _ _)
  rw [hW3]
  clear hW3 r0 r1 r2 r3 r4 r5 r6 r7 r8 m0 m4
  have HO := hid hO
  have hRw := row_on HF.out.r HB4.out
  have hBw := row_on HF.out.bm.row HB4.out
  have r0 := row_cell hRw 0
  have m0 := row_cell hBw 0
  have o2 := row_cell hO 2
  simp only [cmr, Bs.row, List.getElem?_toArray, List.getElem?_cons_succ, List.getElem?_cons_zero] at r0 m0 o2
  clear hRw hBw hO
  have CLL := hid (fun n => CL.out (W3.drewN n) (btr HB4.out (bdrew _ _)))
  go_quiet ((first | (go_at_call 47; exact Calls.quiet_of_same (CR.out _)) | (go_at_call 48; exact Calls.quiet_of (CLL.out _))))
  have HB6 := hid (btr HB4.out (bdrew W3 nq))
  have o0 := row_cell HO.out 0
  have o1 := row_cell HO.out 1
  have o3 := row_cell HO.out 3
  have o4 := row_cell HO.out 4
  have o5 := row_cell HO.out 5
  have o6 := row_cell HO.out 6
  have o7 := row_cell HO.out 7
  have o8 := row_cell HO.out 8
  simp only [List.getElem?_toArray, List.getElem?_cons_succ, List.getElem?_cons_zero] at o0 o1 o3 o4 o5 o6 o7 o8
  go_wp2_with (first | (go_at_call 49; with_reducible refine (CM.out _ HB6.out).mono ?_; rintro e w5 ⟨rfl, hb5⟩; have HB5 := hid (btr HB6.out hb5); clear hb5))
  go_ret
  exact ⟨rfl, btr HF.out.bel HB6.out⟩
theorem rfa2 (B : Nat) (b : Bs) (c : Cm) (w W : World) (y : Int) (hv rv mv : Bool) (o : Or) (s : Int) (k1 : (c.kd != 1) = false) (k1' : (c.kd == 1) = true) (k2 : (c.kd == 2) = false) (hi : ¬ c.id ≤ b.high) (t5 : (o.ty == 5) = false) (fu : ¬ b.cap ≤ (b.l1.length : Int) + b.l2.length) (hW : w.alloc (.cells (cmr c) 38) = W) (hF : Rf w B b c 0 hv o s true mv W) :
    Calls Try.prog 25 #[.pointer (some ⟨B, 0, none⟩), .agg (cmr c)] w fun e w' => e = .returned (.int .i64 0) ∧ Below w.heap.size w w' := by
  have HF := hid hF
  have CK := hid hF.ck
  have CH := hid hF.hs
  have CO := hid hF.od
  have CR := hid hF.rs
  have CL := hid hF.ln
  have CM := hid hF.mt
  have HW := hid hW
  unfold cmr at CK CO HW
  unfold crow at CO CM
  have r0 := row_cell hF.r 0
  have r1 := row_cell hF.r 1
  have r2 := row_cell hF.r 2
  have r3 := row_cell hF.r 3
  have r4 := row_cell hF.r 4
  have r5 := row_cell hF.r 5
  have r6 := row_cell hF.r 6
  have r7 := row_cell hF.r 7
  have r8 := row_cell hF.r 8
  have m0 := row_cell hF.bm.row 0
  have m4 := row_cell hF.bm.row 4
  simp only [cmr, Bs.row, List.getElem?_toArray, List.getElem?_cons_succ, List.getElem?_cons_zero] at r0 r1 r2 r3 r4 r5 r6 r7 r8 m0 m4
  clear hF hW
  unfold cmr
  go_enter Try.func25, Try.ntmps25
  go_upto_region 1 with fail
  rw [HW.out]
  go_upto_region 8 with (first | (go_at_call 45; clear r0 r1 r2 r3 r4 r5 r6 r7 r8 m0 m4; with_reducible refine (CK.out _).mono ?_; rintro e w1 ⟨rfl, hb1⟩; have HB1 := hid hb1; have hRw := row_on HF.out.r HB1.out; have hBw := row_on HF.out.bm.row HB1.out; have r0 := row_cell hRw 0; have r1 := row_cell hRw 1; have r2 := row_cell hRw 2; have r3 := row_cell hRw 3; have r4 := row_cell hRw 4; have r5 := row_cell hRw 5; have r6 := row_cell hRw 6; have r7 := row_cell hRw 7; have r8 := row_cell hRw 8; have m0 := row_cell hBw 0; have m4 := row_cell hBw 4; simp only [cmr, Bs.row, List.getElem?_toArray, List.getElem?_cons_succ, List.getElem?_cons_zero] at r0 r1 r2 r3 r4 r5 r6 r7 r8 m0 m4; clear hRw hBw; clear hb1) | (go_at_call 46; with_reducible refine (CH.out _ HB1.out).mono ?_; rintro e w2 ⟨rfl, hb2⟩; have HB1 := hid (btr HB1.out hb2); clear r0 r1 r2 r3 r4 r5 r6 r7 r8 m0 m4; have hRw := row_on HF.out.r HB1.out; have hBw := row_on HF.out.bm.row HB1.out; have r0 := row_cell hRw 0; have r1 := row_cell hRw 1; have r2 := row_cell hRw 2; have r3 := row_cell hRw 3; have r4 := row_cell hRw 4; have r5 := row_cell hRw 5; have r6 := row_cell hRw 6; have r7 := row_cell hRw 7; have r8 := row_cell hRw 8; have m0 := row_cell hBw 0; have m4 := row_cell hBw 4; simp only [cmr, Bs.row, List.getElem?_toArray, List.getElem?_cons_succ, List.getElem?_cons_zero] at r0 r1 r2 r3 r4 r5 r6 r7 r8 m0 m4; clear hRw hBw; clear hb2))
  go_quiet (fail)
  go_upto_region 11 with (first | (go_at_call 29; with_reducible refine (CO.out _ (btr HB1.out (by first | exact bdrew _ _ | exact bdrew1 _))).mono ?_; rintro e w3 ⟨rfl, hb3⟩; have HB3 := hid (btr (btr HB1.out (by first | exact bdrew _ _ | exact bdrew1 _)) hb3); clear hb3))
  obtain ⟨W3, hW3⟩ : ∃ W3, w3.alloc (.cells #[.int .u64 o.id, .int .u32 o.mb, .int .i64 o.ty, .int .i64 o.pr, .int .u64 o.vi, .int .u64 o.hi, .int .u64 o.pk, .int .i64 s, .int .u64 c.qt] 88) = W3 := ⟨_, rfl⟩
  have HB4 := hid (show Below W.heap.size W W3 from by rw [← hW3]; exact btr HB3.out (ball _ _))
  have hO := (show W3.heap[w3.heap.size]? = some (.cells #[.int .u64 o.id, .int .u32 o.mb, .int .i64 o.ty, .int .i64 o.pr, .int .u64 o.vi, .int .u64 o.hi, .int .u64 o.pk, .int .i64 s, .int .u64 c.qt] 88 (0, 0)) from by rw [← hW3]; exact World.alloc_heap_new _ _)
  rw [hW3]
  clear hW3 r0 r1 r2 r3 r4 r5 r6 r7 r8 m0 m4
  have HO := hid hO
  have hRw := row_on HF.out.r HB4.out
  have hBw := row_on HF.out.bm.row HB4.out
  have r0 := row_cell hRw 0
  have m0 := row_cell hBw 0
  have o2 := row_cell hO 2
  simp only [cmr, Bs.row, List.getElem?_toArray, List.getElem?_cons_succ, List.getElem?_cons_zero] at r0 m0 o2
  clear hRw hBw hO
  have CLL := hid (fun n => CL.out (W3.drewN n) (btr HB4.out (bdrew _ _)))
  go_quiet ((first | (go_at_call 47; exact Calls.quiet_of_same (CR.out _)) | (go_at_call 48; exact Calls.quiet_of (CLL.out _))))
  have HB6 := hid (btr HB4.out (bdrew W3 nq))
  have o0 := row_cell HO.out 0
  have o1 := row_cell HO.out 1
  have o3 := row_cell HO.out 3
  have o4 := row_cell HO.out 4
  have o5 := row_cell HO.out 5
  have o6 := row_cell HO.out 6
  have o7 := row_cell HO.out 7
  have o8 := row_cell HO.out 8
  simp only [List.getElem?_toArray, List.getElem?_cons_succ, List.getElem?_cons_zero] at o0 o1 o3 o4 o5 o6 o7 o8
  go_wp2_with (first | (go_at_call 49; with_reducible refine (CM.out _ HB6.out).mono ?_; rintro e w5 ⟨rfl, hb5⟩; have HB5 := hid (btr HB6.out hb5); clear hb5))
  go_ret
  exact ⟨rfl, btr HF.out.bel HB6.out⟩
theorem rfa3 (B : Nat) (b : Bs) (c : Cm) (w W : World) (y : Int) (hv rv mv : Bool) (o : Or) (s : Int) (k1 : (c.kd != 1) = false) (k1' : (c.kd == 1) = true) (k2 : (c.kd == 2) = false) (hi : ¬ c.id ≤ b.high) (t5 : (o.ty == 5) = true) (fu : ¬ b.cap ≤ (b.l1.length : Int) + b.l2.length) (hs : s = 1 ∨ s = 2) (hW : w.alloc (.cells (cmr c) 38) = W) (hF : Rf w B b c 0 hv o s true false W) :
    Calls Try.prog 25 #[.pointer (some ⟨B, 0, none⟩), .agg (cmr c)] w fun e w' => e = .returned (.int .i64 0) ∧ Below w.heap.size w w' := by
  have HF := hid hF
  have CK := hid hF.ck
  have CH := hid hF.hs
  have CO := hid hF.od
  have CR := hid hF.rs
  have CL := hid hF.ln
  have CM := hid (hF.mt hs)
  have HW := hid hW
  unfold cmr at CK CO HW
  unfold crow at CO CM
  have r0 := row_cell hF.r 0
  have r1 := row_cell hF.r 1
  have r2 := row_cell hF.r 2
  have r3 := row_cell hF.r 3
  have r4 := row_cell hF.r 4
  have r5 := row_cell hF.r 5
  have r6 := row_cell hF.r 6
  have r7 := row_cell hF.r 7
  have r8 := row_cell hF.r 8
  have m0 := row_cell hF.bm.row 0
  have m4 := row_cell hF.bm.row 4
  simp only [cmr, Bs.row, List.getElem?_toArray, List.getElem?_cons_succ, List.getElem?_cons_zero] at r0 r1 r2 r3 r4 r5 r6 r7 r8 m0 m4
  clear hF hW
  unfold cmr
  go_enter Try.func25, Try.ntmps25
  go_upto_region 1 with fail
  rw [HW.out]
  go_upto_region 8 with (first | (go_at_call 45; clear r0 r1 r2 r3 r4 r5 r6 r7 r8 m0 m4; with_reducible refine (CK.out _).mono ?_; rintro e w1 ⟨rfl, hb1⟩; have HB1 := hid hb1; have hRw := row_on HF.out.r HB1.out; have hBw := row_on HF.out.bm.row HB1.out; have r0 := row_cell hRw 0; have r1 := row_cell hRw 1; have r2 := row_cell hRw 2; have r3 := row_cell hRw 3; have r4 := row_cell hRw 4; have r5 := row_cell hRw 5; have r6 := row_cell hRw 6; have r7 := row_cell hRw 7; have r8 := row_cell hRw 8; have m0 := row_cell hBw 0; have m4 := row_cell hBw 4; simp only [cmr, Bs.row, List.getElem?_toArray, List.getElem?_cons_succ, List.getElem?_cons_zero] at r0 r1 r2 r3 r4 r5 r6 r7 r8 m0 m4; clear hRw hBw; clear hb1) | (go_at_call 46; with_reducible refine (CH.out _ HB1.out).mono ?_; rintro e w2 ⟨rfl, hb2⟩; have HB1 := hid (btr HB1.out hb2); clear r0 r1 r2 r3 r4 r5 r6 r7 r8 m0 m4; have hRw := row_on HF.out.r HB1.out; have hBw := row_on HF.out.bm.row HB1.out; have r0 := row_cell hRw 0; have r1 := row_cell hRw 1; have r2 := row_cell hRw 2; have r3 := row_cell hRw 3; have r4 := row_cell hRw 4; have r5 := row_cell hRw 5; have r6 := row_cell hRw 6; have r7 := row_cell hRw 7; have r8 := row_cell hRw 8; have m0 := row_cell hBw 0; have m4 := row_cell hBw 4; simp only [cmr, Bs.row, List.getElem?_toArray, List.getElem?_cons_succ, List.getElem?_cons_zero] at r0 r1 r2 r3 r4 r5 r6 r7 r8 m0 m4; clear hRw hBw; clear hb2))
  go_quiet (fail)
  go_upto_region 11 with (first | (go_at_call 29; with_reducible refine (CO.out _ (btr HB1.out (by first | exact bdrew _ _ | exact bdrew1 _))).mono ?_; rintro e w3 ⟨rfl, hb3⟩; have HB3 := hid (btr (btr HB1.out (by first | exact bdrew _ _ | exact bdrew1 _)) hb3); clear hb3))
  obtain ⟨W3, hW3⟩ : ∃ W3, w3.alloc (.cells #[.int .u64 o.id, .int .u32 o.mb, .int .i64 o.ty, .int .i64 o.pr, .int .u64 o.vi, .int .u64 o.hi, .int .u64 o.pk, .int .i64 s, .int .u64 c.qt] 88) = W3 := ⟨_, rfl⟩
  have HB4 := hid (show Below W.heap.size W W3 from by rw [← hW3]; exact btr HB3.out (ball _ _))
  have hO := (show W3.heap[w3.heap.size]? = some (.cells #[.int .u64 o.id, .int .u32 o.mb, .int .i64 o.ty, .int .i64 o.pr, .int .u64 o.vi, .int .u64 o.hi, .int .u64 o.pk, .int .i64 s, .int .u64 c.qt] 88 (0, 0)) from by rw [← hW3]; exact World.alloc_heap_new _ _)
  rw [hW3]
  clear hW3 r0 r1 r2 r3 r4 r5 r6 r7 r8 m0 m4
  have HO := hid hO
  have hRw := row_on HF.out.r HB4.out
  have hBw := row_on HF.out.bm.row HB4.out
  have r0 := row_cell hRw 0
  have m0 := row_cell hBw 0
  have o2 := row_cell hO 2
  simp only [cmr, Bs.row, List.getElem?_toArray, List.getElem?_cons_succ, List.getElem?_cons_zero] at r0 m0 o2
  clear hRw hBw hO
  have CLL := hid (fun n => CL.out (W3.drewN n) (btr HB4.out (bdrew _ _)))
  go_quiet ((first | (go_at_call 47; exact Calls.quiet_of_same (CR.out _)) | (go_at_call 48; exact Calls.quiet_of (CLL.out _))))
  have HB6 := hid (btr HB4.out (bdrew W3 nq))
  have o0 := row_cell HO.out 0
  have o1 := row_cell HO.out 1
  have o3 := row_cell HO.out 3
  have o4 := row_cell HO.out 4
  have o5 := row_cell HO.out 5
  have o6 := row_cell HO.out 6
  have o7 := row_cell HO.out 7
  have o8 := row_cell HO.out 8
  simp only [List.getElem?_toArray, List.getElem?_cons_succ, List.getElem?_cons_zero] at o0 o1 o3 o4 o5 o6 o7 o8
  go_wp2_with (first | (go_at_call 49; with_reducible refine (CM.out _ HB6.out).mono ?_; rintro e w5 ⟨rfl, hb5⟩; have HB5 := hid (btr HB6.out hb5); clear hb5))
  go_ret
  exact ⟨rfl, btr HF.out.bel HB5.out⟩
theorem rfa4 (B : Nat) (b : Bs) (c : Cm) (w W : World) (y : Int) (hv rv mv : Bool) (o : Or) (s : Int) (k1 : (c.kd != 1) = false) (k1' : (c.kd == 1) = true) (k2 : (c.kd == 2) = false) (hi : ¬ c.id ≤ b.high) (t5 : (o.ty == 5) = true) (fu : ¬ b.cap ≤ (b.l1.length : Int) + b.l2.length) (hs : s = 1 ∨ s = 2) (hW : w.alloc (.cells (cmr c) 38) = W) (hF : Rf w B b c 0 hv o s true true W) :
    Calls Try.prog 25 #[.pointer (some ⟨B, 0, none⟩), .agg (cmr c)] w fun e w' => e = .returned (.int .i64 99) ∧ Below w.heap.size w w' := by
  have HF := hid hF
  have CK := hid hF.ck
  have CH := hid hF.hs
  have CO := hid hF.od
  have CR := hid hF.rs
  have CL := hid hF.ln
  have CM := hid (hF.mt hs)
  have HW := hid hW
  unfold cmr at CK CO HW
  unfold crow at CO CM
  have r0 := row_cell hF.r 0
  have r1 := row_cell hF.r 1
  have r2 := row_cell hF.r 2
  have r3 := row_cell hF.r 3
  have r4 := row_cell hF.r 4
  have r5 := row_cell hF.r 5
  have r6 := row_cell hF.r 6
  have r7 := row_cell hF.r 7
  have r8 := row_cell hF.r 8
  have m0 := row_cell hF.bm.row 0
  have m4 := row_cell hF.bm.row 4
  simp only [cmr, Bs.row, List.getElem?_toArray, List.getElem?_cons_succ, List.getElem?_cons_zero] at r0 r1 r2 r3 r4 r5 r6 r7 r8 m0 m4
  clear hF hW
  unfold cmr
  go_enter Try.func25, Try.ntmps25
  go_upto_region 1 with fail
  rw [HW.out]
  go_upto_region 8 with (first | (go_at_call 45; clear r0 r1 r2 r3 r4 r5 r6 r7 r8 m0 m4; with_reducible refine (CK.out _).mono ?_; rintro e w1 ⟨rfl, hb1⟩; have HB1 := hid hb1; have hRw := row_on HF.out.r HB1.out; have hBw := row_on HF.out.bm.row HB1.out; have r0 := row_cell hRw 0; have r1 := row_cell hRw 1; have r2 := row_cell hRw 2; have r3 := row_cell hRw 3; have r4 := row_cell hRw 4; have r5 := row_cell hRw 5; have r6 := row_cell hRw 6; have r7 := row_cell hRw 7; have r8 := row_cell hRw 8; have m0 := row_cell hBw 0; have m4 := row_cell hBw 4; simp only [cmr, Bs.row, List.getElem?_toArray, List.getElem?_cons_succ, List.getElem?_cons_zero] at r0 r1 r2 r3 r4 r5 r6 r7 r8 m0 m4; clear hRw hBw; clear hb1) | (go_at_call 46; with_reducible refine (CH.out _ HB1.out).mono ?_; rintro e w2 ⟨rfl, hb2⟩; have HB1 := hid (btr HB1.out hb2); clear r0 r1 r2 r3 r4 r5 r6 r7 r8 m0 m4; have hRw := row_on HF.out.r HB1.out; have hBw := row_on HF.out.bm.row HB1.out; have r0 := row_cell hRw 0; have r1 := row_cell hRw 1; have r2 := row_cell hRw 2; have r3 := row_cell hRw 3; have r4 := row_cell hRw 4; have r5 := row_cell hRw 5; have r6 := row_cell hRw 6; have r7 := row_cell hRw 7; have r8 := row_cell hRw 8; have m0 := row_cell hBw 0; have m4 := row_cell hBw 4; simp only [cmr, Bs.row, List.getElem?_toArray, List.getElem?_cons_succ, List.getElem?_cons_zero] at r0 r1 r2 r3 r4 r5 r6 r7 r8 m0 m4; clear hRw hBw; clear hb2))
  go_quiet (fail)
  go_upto_region 11 with (first | (go_at_call 29; with_reducible refine (CO.out _ (btr HB1.out (by first | exact bdrew _ _ | exact bdrew1 _))).mono ?_; rintro e w3 ⟨rfl, hb3⟩; have HB3 := hid (btr (btr HB1.out (by first | exact bdrew _ _ | exact bdrew1 _)) hb3); clear hb3))
  obtain ⟨W3, hW3⟩ : ∃ W3, w3.alloc (.cells #[.int .u64 o.id, .int .u32 o.mb, .int .i64 o.ty, .int .i64 o.pr, .int .u64 o.vi, .int .u64 o.hi, .int .u64 o.pk, .int .i64 s, .int .u64 c.qt] 88) = W3 := ⟨_, rfl⟩
  have HB4 := hid (show Below W.heap.size W W3 from by rw [← hW3]; exact btr HB3.out (ball _ _))
  have hO := (show W3.heap[w3.heap.size]? = some (.cells #[.int .u64 o.id, .int .u32 o.mb, .int .i64 o.ty, .int .i64 o.pr, .int .u64 o.vi, .int .u64 o.hi, .int .u64 o.pk, .int .i64 s, .int .u64 c.qt] 88 (0, 0)) from by rw [← hW3]; exact World.alloc_heap_new _ _)
  rw [hW3]
  clear hW3 r0 r1 r2 r3 r4 r5 r6 r7 r8 m0 m4
  have HO := hid hO
  have hRw := row_on HF.out.r HB4.out
  have hBw := row_on HF.out.bm.row HB4.out
  have r0 := row_cell hRw 0
  have m0 := row_cell hBw 0
  have o2 := row_cell hO 2
  simp only [cmr, Bs.row, List.getElem?_toArray, List.getElem?_cons_succ, List.getElem?_cons_zero] at r0 m0 o2
  clear hRw hBw hO
  have CLL := hid (fun n => CL.out (W3.drewN n) (btr HB4.out (bdrew _ _)))
  go_quiet ((first | (go_at_call 47; exact Calls.quiet_of_same (CR.out _)) | (go_at_call 48; exact Calls.quiet_of (CLL.out _))))
  have HB6 := hid (btr HB4.out (bdrew W3 nq))
  have o0 := row_cell HO.out 0
  have o1 := row_cell HO.out 1
  have o3 := row_cell HO.out 3
  have o4 := row_cell HO.out 4
  have o5 := row_cell HO.out 5
  have o6 := row_cell HO.out 6
  have o7 := row_cell HO.out 7
  have o8 := row_cell HO.out 8
  simp only [List.getElem?_toArray, List.getElem?_cons_succ, List.getElem?_cons_zero] at o0 o1 o3 o4 o5 o6 o7 o8
  go_wp2_with (first | (go_at_call 49; with_reducible refine (CM.out _ HB6.out).mono ?_; rintro e w5 ⟨rfl, hb5⟩; have HB5 := hid (btr HB6.out hb5); clear hb5))
  go_ret
  exact ⟨rfl, btr HF.out.bel HB5.out⟩
theorem rfb1 (B : Nat) (b : Bs) (c : Cm) (w W : World) (y : Int) (hv rv mv : Bool) (o : Or) (s : Int) (k1 : (c.kd != 1) = true) (k1' : (c.kd == 1) = false) (k2 : (c.kd == 2) = false) (hi : ¬ c.id ≤ b.high) (t5 : (o.ty == 5) = false) (hW : w.alloc (.cells (cmr c) 38) = W) (hF : Rf w B b c 0 true o s rv mv W) :
    Calls Try.prog 25 #[.pointer (some ⟨B, 0, none⟩), .agg (cmr c)] w fun e w' => e = .returned (.int .i64 0) ∧ Below w.heap.size w w' := by
  have HF := hid hF
  have CK := hid hF.ck
  have CH := hid hF.hs
  have CO := hid hF.od
  have CR := hid hF.rs
  have CL := hid hF.ln
  have CM := hid hF.mt
  have HW := hid hW
  unfold cmr at CK CO HW
  unfold crow at CO CM
  have r0 := row_cell hF.r 0
  have r1 := row_cell hF.r 1
  have r2 := row_cell hF.r 2
  have r3 := row_cell hF.r 3
  have r4 := row_cell hF.r 4
  have r5 := row_cell hF.r 5
  have r6 := row_cell hF.r 6
  have r7 := row_cell hF.r 7
  have r8 := row_cell hF.r 8
  have m0 := row_cell hF.bm.row 0
  have m4 := row_cell hF.bm.row 4
  simp only [cmr, Bs.row, List.getElem?_toArray, List.getElem?_cons_succ, List.getElem?_cons_zero] at r0 r1 r2 r3 r4 r5 r6 r7 r8 m0 m4
  clear hF hW
  unfold cmr
  go_enter Try.func25, Try.ntmps25
  go_upto_region 1 with fail
  rw [HW.out]
  go_upto_region 8 with (first | (go_at_call 45; clear r0 r1 r2 r3 r4 r5 r6 r7 r8 m0 m4; with_reducible refine (CK.out _).mono ?_; rintro e w1 ⟨rfl, hb1⟩; have HB1 := hid hb1; have hRw := row_on HF.out.r HB1.out; have hBw := row_on HF.out.bm.row HB1.out; have r0 := row_cell hRw 0; have r1 := row_cell hRw 1; have r2 := row_cell hRw 2; have r3 := row_cell hRw 3; have r4 := row_cell hRw 4; have r5 := row_cell hRw 5; have r6 := row_cell hRw 6; have r7 := row_cell hRw 7; have r8 := row_cell hRw 8; have m0 := row_cell hBw 0; have m4 := row_cell hBw 4; simp only [cmr, Bs.row, List.getElem?_toArray, List.getElem?_cons_succ, List.getElem?_cons_zero] at r0 r1 r2 r3 r4 r5 r6 r7 r8 m0 m4; clear hRw hBw; clear hb1) | (go_at_call 46; with_reducible refine (CH.out _ HB1.out).mono ?_; rintro e w2 ⟨rfl, hb2⟩; have HB1 := hid (btr HB1.out hb2); clear r0 r1 r2 r3 r4 r5 r6 r7 r8 m0 m4; have hRw := row_on HF.out.r HB1.out; have hBw := row_on HF.out.bm.row HB1.out; have r0 := row_cell hRw 0; have r1 := row_cell hRw 1; have r2 := row_cell hRw 2; have r3 := row_cell hRw 3; have r4 := row_cell hRw 4; have r5 := row_cell hRw 5; have r6 := row_cell hRw 6; have r7 := row_cell hRw 7; have r8 := row_cell hRw 8; have m0 := row_cell hBw 0; have m4 := row_cell hBw 4; simp only [cmr, Bs.row, List.getElem?_toArray, List.getElem?_cons_succ, List.getElem?_cons_zero] at r0 r1 r2 r3 r4 r5 r6 r7 r8 m0 m4; clear hRw hBw; clear hb2))
  go_quiet (fail)
  go_upto_region 11 with (first | (go_at_call 29; with_reducible refine (CO.out _ (btr HB1.out (by first | exact bdrew _ _ | exact bdrew1 _))).mono ?_; rintro e w3 ⟨rfl, hb3⟩; have HB3 := hid (btr (btr HB1.out (by first | exact bdrew _ _ | exact bdrew1 _)) hb3); clear hb3))
  obtain ⟨W3, hW3⟩ : ∃ W3, w3.alloc (.cells #[.int .u64 o.id, .int .u32 o.mb, .int .i64 o.ty, .int .i64 o.pr, .int .u64 o.vi, .int .u64 o.hi, .int .u64 o.pk, .int .i64 s, .int .u64 c.qt] 88) = W3 := ⟨_, rfl⟩
  have HB4 := hid (show Below W.heap.size W W3 from by rw [← hW3]; exact btr HB3.out (ball _ _))
  have hO := (show W3.heap[w3.heap.size]? = some (.cells #[.int .u64 o.id, .int .u32 o.mb, .int .i64 o.ty, .int .i64 o.pr, .int .u64 o.vi, .int .u64 o.hi, .int .u64 o.pk, .int .i64 s, .int .u64 c.qt] 88 (0, 0)) from by rw [← hW3]; exact World.alloc_heap_new _ _)
  rw [hW3]
  clear hW3 r0 r1 r2 r3 r4 r5 r6 r7 r8 m0 m4
  have HO := hid hO
  have hRw := row_on HF.out.r HB4.out
  have hBw := row_on HF.out.bm.row HB4.out
  have r0 := row_cell hRw 0
  have m0 := row_cell hBw 0
  have o2 := row_cell hO 2
  simp only [cmr, Bs.row, List.getElem?_toArray, List.getElem?_cons_succ, List.getElem?_cons_zero] at r0 m0 o2
  clear hRw hBw hO
  have CLL := hid (fun n => CL.out (W3.drewN n) (btr HB4.out (bdrew _ _)))
  go_quiet ((first | (go_at_call 47; exact Calls.quiet_of_same (CR.out _)) | (go_at_call 48; exact Calls.quiet_of (CLL.out _))))
  have HB6 := hid (btr HB4.out (bdrew W3 nq))
  have o0 := row_cell HO.out 0
  have o1 := row_cell HO.out 1
  have o3 := row_cell HO.out 3
  have o4 := row_cell HO.out 4
  have o5 := row_cell HO.out 5
  have o6 := row_cell HO.out 6
  have o7 := row_cell HO.out 7
  have o8 := row_cell HO.out 8
  simp only [List.getElem?_toArray, List.getElem?_cons_succ, List.getElem?_cons_zero] at o0 o1 o3 o4 o5 o6 o7 o8
  go_wp2_with (first | (go_at_call 49; with_reducible refine (CM.out _ HB6.out).mono ?_; rintro e w5 ⟨rfl, hb5⟩; have HB5 := hid (btr HB6.out hb5); clear hb5))
  go_ret
  exact ⟨rfl, btr HF.out.bel HB6.out⟩
theorem rfb2 (B : Nat) (b : Bs) (c : Cm) (w W : World) (y : Int) (hv rv mv : Bool) (o : Or) (s : Int) (k1 : (c.kd != 1) = true) (k1' : (c.kd == 1) = false) (k2 : (c.kd == 2) = false) (hi : ¬ c.id ≤ b.high) (t5 : (o.ty == 5) = true) (hs : s = 1 ∨ s = 2) (hW : w.alloc (.cells (cmr c) 38) = W) (hF : Rf w B b c 0 true o s rv false W) :
    Calls Try.prog 25 #[.pointer (some ⟨B, 0, none⟩), .agg (cmr c)] w fun e w' => e = .returned (.int .i64 0) ∧ Below w.heap.size w w' := by
  have HF := hid hF
  have CK := hid hF.ck
  have CH := hid hF.hs
  have CO := hid hF.od
  have CR := hid hF.rs
  have CL := hid hF.ln
  have CM := hid (hF.mt hs)
  have HW := hid hW
  unfold cmr at CK CO HW
  unfold crow at CO CM
  have r0 := row_cell hF.r 0
  have r1 := row_cell hF.r 1
  have r2 := row_cell hF.r 2
  have r3 := row_cell hF.r 3
  have r4 := row_cell hF.r 4
  have r5 := row_cell hF.r 5
  have r6 := row_cell hF.r 6
  have r7 := row_cell hF.r 7
  have r8 := row_cell hF.r 8
  have m0 := row_cell hF.bm.row 0
  have m4 := row_cell hF.bm.row 4
  simp only [cmr, Bs.row, List.getElem?_toArray, List.getElem?_cons_succ, List.getElem?_cons_zero] at r0 r1 r2 r3 r4 r5 r6 r7 r8 m0 m4
  clear hF hW
  unfold cmr
  go_enter Try.func25, Try.ntmps25
  go_upto_region 1 with fail
  rw [HW.out]
  go_upto_region 8 with (first | (go_at_call 45; clear r0 r1 r2 r3 r4 r5 r6 r7 r8 m0 m4; with_reducible refine (CK.out _).mono ?_; rintro e w1 ⟨rfl, hb1⟩; have HB1 := hid hb1; have hRw := row_on HF.out.r HB1.out; have hBw := row_on HF.out.bm.row HB1.out; have r0 := row_cell hRw 0; have r1 := row_cell hRw 1; have r2 := row_cell hRw 2; have r3 := row_cell hRw 3; have r4 := row_cell hRw 4; have r5 := row_cell hRw 5; have r6 := row_cell hRw 6; have r7 := row_cell hRw 7; have r8 := row_cell hRw 8; have m0 := row_cell hBw 0; have m4 := row_cell hBw 4; simp only [cmr, Bs.row, List.getElem?_toArray, List.getElem?_cons_succ, List.getElem?_cons_zero] at r0 r1 r2 r3 r4 r5 r6 r7 r8 m0 m4; clear hRw hBw; clear hb1) | (go_at_call 46; with_reducible refine (CH.out _ HB1.out).mono ?_; rintro e w2 ⟨rfl, hb2⟩; have HB1 := hid (btr HB1.out hb2); clear r0 r1 r2 r3 r4 r5 r6 r7 r8 m0 m4; have hRw := row_on HF.out.r HB1.out; have hBw := row_on HF.out.bm.row HB1.out; have r0 := row_cell hRw 0; have r1 := row_cell hRw 1; have r2 := row_cell hRw 2; have r3 := row_cell hRw 3; have r4 := row_cell hRw 4; have r5 := row_cell hRw 5; have r6 := row_cell hRw 6; have r7 := row_cell hRw 7; have r8 := row_cell hRw 8; have m0 := row_cell hBw 0; have m4 := row_cell hBw 4; simp only [cmr, Bs.row, List.getElem?_toArray, List.getElem?_cons_succ, List.getElem?_cons_zero] at r0 r1 r2 r3 r4 r5 r6 r7 r8 m0 m4; clear hRw hBw; clear hb2))
  go_quiet (fail)
  go_upto_region 11 with (first | (go_at_call 29; with_reducible refine (CO.out _ (btr HB1.out (by first | exact bdrew _ _ | exact bdrew1 _))).mono ?_; rintro e w3 ⟨rfl, hb3⟩; have HB3 := hid (btr (btr HB1.out (by first | exact bdrew _ _ | exact bdrew1 _)) hb3); clear hb3))
  obtain ⟨W3, hW3⟩ : ∃ W3, w3.alloc (.cells #[.int .u64 o.id, .int .u32 o.mb, .int .i64 o.ty, .int .i64 o.pr, .int .u64 o.vi, .int .u64 o.hi, .int .u64 o.pk, .int .i64 s, .int .u64 c.qt] 88) = W3 := ⟨_, rfl⟩
  have HB4 := hid (show Below W.heap.size W W3 from by rw [← hW3]; exact btr HB3.out (ball _ _))
  have hO := (show W3.heap[w3.heap.size]? = some (.cells #[.int .u64 o.id, .int .u32 o.mb, .int .i64 o.ty, .int .i64 o.pr, .int .u64 o.vi, .int .u64 o.hi, .int .u64 o.pk, .int .i64 s, .int .u64 c.qt] 88 (0, 0)) from by rw [← hW3]; exact World.alloc_heap_new _ _)
  rw [hW3]
  clear hW3 r0 r1 r2 r3 r4 r5 r6 r7 r8 m0 m4
  have HO := hid hO
  have hRw := row_on HF.out.r HB4.out
  have hBw := row_on HF.out.bm.row HB4.out
  have r0 := row_cell hRw 0
  have m0 := row_cell hBw 0
  have o2 := row_cell hO 2
  simp only [cmr, Bs.row, List.getElem?_toArray, List.getElem?_cons_succ, List.getElem?_cons_zero] at r0 m0 o2
  clear hRw hBw hO
  have CLL := hid (fun n => CL.out (W3.drewN n) (btr HB4.out (bdrew _ _)))
  go_quiet ((first | (go_at_call 47; exact Calls.quiet_of_same (CR.out _)) | (go_at_call 48; exact Calls.quiet_of (CLL.out _))))
  have HB6 := hid (btr HB4.out (bdrew W3 nq))
  have o0 := row_cell HO.out 0
  have o1 := row_cell HO.out 1
  have o3 := row_cell HO.out 3
  have o4 := row_cell HO.out 4
  have o5 := row_cell HO.out 5
  have o6 := row_cell HO.out 6
  have o7 := row_cell HO.out 7
  have o8 := row_cell HO.out 8
  simp only [List.getElem?_toArray, List.getElem?_cons_succ, List.getElem?_cons_zero] at o0 o1 o3 o4 o5 o6 o7 o8
  go_wp2_with (first | (go_at_call 49; with_reducible refine (CM.out _ HB6.out).mono ?_; rintro e w5 ⟨rfl, hb5⟩; have HB5 := hid (btr HB6.out hb5); clear hb5))
  go_ret
  exact ⟨rfl, btr HF.out.bel HB5.out⟩
theorem rfb3 (B : Nat) (b : Bs) (c : Cm) (w W : World) (y : Int) (hv rv mv : Bool) (o : Or) (s : Int) (k1 : (c.kd != 1) = true) (k1' : (c.kd == 1) = false) (k2 : (c.kd == 2) = false) (hi : ¬ c.id ≤ b.high) (t5 : (o.ty == 5) = true) (hs : s = 1 ∨ s = 2) (hW : w.alloc (.cells (cmr c) 38) = W) (hF : Rf w B b c 0 true o s rv true W) :
    Calls Try.prog 25 #[.pointer (some ⟨B, 0, none⟩), .agg (cmr c)] w fun e w' => e = .returned (.int .i64 99) ∧ Below w.heap.size w w' := by
  have HF := hid hF
  have CK := hid hF.ck
  have CH := hid hF.hs
  have CO := hid hF.od
  have CR := hid hF.rs
  have CL := hid hF.ln
  have CM := hid (hF.mt hs)
  have HW := hid hW
  unfold cmr at CK CO HW
  unfold crow at CO CM
  have r0 := row_cell hF.r 0
  have r1 := row_cell hF.r 1
  have r2 := row_cell hF.r 2
  have r3 := row_cell hF.r 3
  have r4 := row_cell hF.r 4
  have r5 := row_cell hF.r 5
  have r6 := row_cell hF.r 6
  have r7 := row_cell hF.r 7
  have r8 := row_cell hF.r 8
  have m0 := row_cell hF.bm.row 0
  have m4 := row_cell hF.bm.row 4
  simp only [cmr, Bs.row, List.getElem?_toArray, List.getElem?_cons_succ, List.getElem?_cons_zero] at r0 r1 r2 r3 r4 r5 r6 r7 r8 m0 m4
  clear hF hW
  unfold cmr
  go_enter Try.func25, Try.ntmps25
  go_upto_region 1 with fail
  rw [HW.out]
  go_upto_region 8 with (first | (go_at_call 45; clear r0 r1 r2 r3 r4 r5 r6 r7 r8 m0 m4; with_reducible refine (CK.out _).mono ?_; rintro e w1 ⟨rfl, hb1⟩; have HB1 := hid hb1; have hRw := row_on HF.out.r HB1.out; have hBw := row_on HF.out.bm.row HB1.out; have r0 := row_cell hRw 0; have r1 := row_cell hRw 1; have r2 := row_cell hRw 2; have r3 := row_cell hRw 3; have r4 := row_cell hRw 4; have r5 := row_cell hRw 5; have r6 := row_cell hRw 6; have r7 := row_cell hRw 7; have r8 := row_cell hRw 8; have m0 := row_cell hBw 0; have m4 := row_cell hBw 4; simp only [cmr, Bs.row, List.getElem?_toArray, List.getElem?_cons_succ, List.getElem?_cons_zero] at r0 r1 r2 r3 r4 r5 r6 r7 r8 m0 m4; clear hRw hBw; clear hb1) | (go_at_call 46; with_reducible refine (CH.out _ HB1.out).mono ?_; rintro e w2 ⟨rfl, hb2⟩; have HB1 := hid (btr HB1.out hb2); clear r0 r1 r2 r3 r4 r5 r6 r7 r8 m0 m4; have hRw := row_on HF.out.r HB1.out; have hBw := row_on HF.out.bm.row HB1.out; have r0 := row_cell hRw 0; have r1 := row_cell hRw 1; have r2 := row_cell hRw 2; have r3 := row_cell hRw 3; have r4 := row_cell hRw 4; have r5 := row_cell hRw 5; have r6 := row_cell hRw 6; have r7 := row_cell hRw 7; have r8 := row_cell hRw 8; have m0 := row_cell hBw 0; have m4 := row_cell hBw 4; simp only [cmr, Bs.row, List.getElem?_toArray, List.getElem?_cons_succ, List.getElem?_cons_zero] at r0 r1 r2 r3 r4 r5 r6 r7 r8 m0 m4; clear hRw hBw; clear hb2))
  go_quiet (fail)
  go_upto_region 11 with (first | (go_at_call 29; with_reducible refine (CO.out _ (btr HB1.out (by first | exact bdrew _ _ | exact bdrew1 _))).mono ?_; rintro e w3 ⟨rfl, hb3⟩; have HB3 := hid (btr (btr HB1.out (by first | exact bdrew _ _ | exact bdrew1 _)) hb3); clear hb3))
  obtain ⟨W3, hW3⟩ : ∃ W3, w3.alloc (.cells #[.int .u64 o.id, .int .u32 o.mb, .int .i64 o.ty, .int .i64 o.pr, .int .u64 o.vi, .int .u64 o.hi, .int .u64 o.pk, .int .i64 s, .int .u64 c.qt] 88) = W3 := ⟨_, rfl⟩
  have HB4 := hid (show Below W.heap.size W W3 from by rw [← hW3]; exact btr HB3.out (ball _ _))
  have hO := (show W3.heap[w3.heap.size]? = some (.cells #[.int .u64 o.id, .int .u32 o.mb, .int .i64 o.ty, .int .i64 o.pr, .int .u64 o.vi, .int .u64 o.hi, .int .u64 o.pk, .int .i64 s, .int .u64 c.qt] 88 (0, 0)) from by rw [← hW3]; exact World.alloc_heap_new _ _)
  rw [hW3]
  clear hW3 r0 r1 r2 r3 r4 r5 r6 r7 r8 m0 m4
  have HO := hid hO
  have hRw := row_on HF.out.r HB4.out
  have hBw := row_on HF.out.bm.row HB4.out
  have r0 := row_cell hRw 0
  have m0 := row_cell hBw 0
  have o2 := row_cell hO 2
  simp only [cmr, Bs.row, List.getElem?_toArray, List.getElem?_cons_succ, List.getElem?_cons_zero] at r0 m0 o2
  clear hRw hBw hO
  have CLL := hid (fun n => CL.out (W3.drewN n) (btr HB4.out (bdrew _ _)))
  go_quiet ((first | (go_at_call 47; exact Calls.quiet_of_same (CR.out _)) | (go_at_call 48; exact Calls.quiet_of (CLL.out _))))
  have HB6 := hid (btr HB4.out (bdrew W3 nq))
  have o0 := row_cell HO.out 0
  have o1 := row_cell HO.out 1
  have o3 := row_cell HO.out 3
  have o4 := row_cell HO.out 4
  have o5 := row_cell HO.out 5
  have o6 := row_cell HO.out 6
  have o7 := row_cell HO.out 7
  have o8 := row_cell HO.out 8
  simp only [List.getElem?_toArray, List.getElem?_cons_succ, List.getElem?_cons_zero] at o0 o1 o3 o4 o5 o6 o7 o8
  go_wp2_with (first | (go_at_call 49; with_reducible refine (CM.out _ HB6.out).mono ?_; rintro e w5 ⟨rfl, hb5⟩; have HB5 := hid (btr HB6.out hb5); clear hb5))
  go_ret
  exact ⟨rfl, btr HF.out.bel HB5.out⟩
end Go.Proofs.Ytojmcfkbekodpaa
