/-
  LvH
-/
import Derived.Test.YtlhbgaiiehljpaaGreatGAa
import Derived.Test.YtlhbgaiiehljpaaGreatLvG
import Derived.Test.YtlhbgaiiehljpaaGreatGAg
import Derived.Test.YtlhbgaiiehljpaaGreatGAr
namespace Go.Proofs.YtlhbgaiiehljpaaGreat
open List renaming getElem?_toArray → lqA, getElem?_cons_succ → lqB, getElem?_cons_zero → lqC
open List renaming getElem_toArray → lgA, getElem_cons_succ → lgB, getElem_cons_zero → lgC, setIfInBounds_toArray → lsA, set_cons_zero → lsB, set_cons_succ → lsC
open Go.RowKit MonM
set_option linter.unusedVariables false
set_option linter.unusedSimpArgs false
set_option maxHeartbeats 8000000
set_option maxRecDepth 100000
attribute [local go_sem ↓] Go.wp_at_zero Go.wp_at_succ
end Go.Proofs.YtlhbgaiiehljpaaGreat
namespace Go.Proofs.YtlhbgaiiehljpaaGreat.Ac
open List renaming getElem?_toArray → lqA, getElem?_cons_succ → lqB, getElem?_cons_zero → lqC
open List renaming getElem_toArray → lgA, getElem_cons_succ → lgB, getElem_cons_zero → lgC, setIfInBounds_toArray → lsA, set_cons_zero → lsB, set_cons_succ → lsC
open Go.RowKit Go.Deep Go.Maps MonM Go.Proofs.YtlhbgaiiehljpaaGreat
set_option linter.unusedVariables false
set_option linter.unusedSimpArgs false
set_option maxHeartbeats 8000000
set_option maxRecDepth 100000
attribute [local go_sem ↓] Go.wp_at_zero Go.wp_at_succ
theorem setRow_below {w W : World} {g : Nat} {cs : Array Value} (h : Below w.heap.size w W) (hg : w.heap.size ≤ g) : Below w.heap.size w (W.setRow g cs) :=
 h.trans ⟨rfl, rfl, rfl, by simp [World.setRow], fun b hb => setRow_other W g b cs (by omega)⟩
theorem setRow_kp (w : World) (g : Nat) (cs : Array Value) : Kp (fun b => b = g) w (w.setRow g cs) :=
 ⟨rfl, rfl, rfl, by simp [World.setRow], fun b _ hb => setRow_other w g b cs (fun e => hb e)⟩
theorem res_c {P : Program} {fn : Func} {p : Tmp} {ty : TypeId} (h : fn.results = #[.cell p ty]) (tmps : Array Value) (w : World) (g : Nat) (t : TypeId) (cs : Array Value) (fr : Nat × Nat) (d : TypeDesc)
  (hp : tmps.getD p undef = .pointer (some ⟨g, 0, none⟩)) (hg : w.heap[g]? = some (.cells cs t fr))
  (hu : P.underlying ty = some d) (hd : (match d with | .struct _ | .array _ _ => true | _ => false) = true) (hi : (P.info? ty).map (·.size) = some cs.size) :
  (results fn tmps).run P w = .ok (.agg cs) w := by
 have hp' : tmps[p]?.getD undef = .pointer (some ⟨g, 0, none⟩) := by simpa using hp
 simp [results, h, hp', asAddr, run_loadVar_row w g t ty cs fr d hg hu hd hi]
theorem infoM2 : (Tryz.prog.info? 33).map (·.size) = some 2 := by kernel_rfl
theorem step_store_row {P : Program} {w : World} {ops : Array Oper} {o : Oper} {a : Act} {K : Act → World → Prop} {Q : Exit → Act → World → Prop} {E : Prop} (hgd : o.guard = none) (ty : TypeId) (x y : Operand) (ho : o.op = .store ty x y)
  (g : Nat) (cells : Array Value) (hx : a.eval x = .pointer (some ⟨g, 0, none⟩)) (hy : a.eval y = .agg cells)
  (t : TypeId) (old : Array Value) (hg : w.heap[g]? = some (.cells old t (0, 0))) (hi : (P.info? ty).map (·.size) = some cells.size)
  (hold : old.size = cells.size) (h1 : cells.all (·.oneCell') = true)
  (h : K (a.put o.dst undef) (w.setRow g cells)) : if Region.wanted o (yielded ops a.tmps) = true then Oper.wp P o a w K Q else E := by
 have hw : Region.wanted o (yielded ops a.tmps) = true := by simp [Region.wanted, hgd]
 rw [if_pos hw]
 exact wp_store_row ty x y ho g cells hx hy t old hg hi hold h1 h
theorem reg_cut {P : Program} {id : Nat} {ops : Array Oper} {b : Bool} {Q : Exit → Act → World → Prop} {a : Act} {w : World} {X : Type} (F : Act → X → Act) (T : X → World → Prop)
  (h1 : (Code.region id ops b).wp P (fun e a' w' => match e with | .normal => ∃ x, a' = F a x ∧ T x w' | _ => False) a w)
  (h2 : ∀ x w', T x w' → Q .normal (F a x) w') : (Code.region id ops b).wp P Q a w :=
 wp_mono h1 (fun e a' w' h => by
  cases e with
  | normal => obtain ⟨x, rfl, ht⟩ := h; exact h2 x w' ht
  | _ => exact h.elim)
/-- a deal. -/
structure Dl where
 ins : Int
 buy : Int
 sel : Int
 tk : Int
 pr : Int
 q : Int
def Dl.ok (x : Dl) : Prop := U32 x.ins ∧ U32 x.buy ∧ U32 x.sel ∧ (-9223372036854775808 ≤ x.tk ∧ x.tk < 9223372036854775808) ∧ (-9223372036854775808 ≤ x.pr ∧ x.pr < 9223372036854775808) ∧ (0 ≤ x.q ∧ x.q < 18446744073709551616)
/-- what is wrong with a deal's terms. -/
def terr (d : Dl) : Int := if d.pr < 0 ∨ 262144 ≤ d.pr then 94 else if d.q < 1 ∨ 4294967295 < d.q then 95 else 0
theorem isPrice_any (p : Int) (w : World) : Calls Tryz.prog 47 #[.int .i64 p] w fun e w' => e = .returned (.bool (decide (0 ≤ p ∧ p < 262144))) ∧ w' = w := by
 by_cases h1 : 0 ≤ p
 ·by_cases h2 : p < 262144
  ·have e : decide (0 ≤ p ∧ p < 262144) = true := by simp [h1, h2]
   rw [e]
   clear e
   go_enter Tryz.func47, Tryz.ntmps47
   go_wp2
   go_ret
   exact ⟨rfl, rfl⟩
  ·have e : decide (0 ≤ p ∧ p < 262144) = false := by simp [h2]
   rw [e]
   clear e
   go_enter Tryz.func47, Tryz.ntmps47
   go_wp2
   go_ret
   exact ⟨rfl, rfl⟩
 ·have e : decide (0 ≤ p ∧ p < 262144) = false := by simp [h1]
  rw [e]
  clear e
  go_enter Tryz.func47, Tryz.ntmps47
  go_wp2
  go_ret
  exact ⟨rfl, rfl⟩
def drow (d : Dl) : Array Value := #[.int .u32 d.ins, .int .u32 d.buy, .int .u32 d.sel, .int .i64 d.tk, .int .i64 d.pr, .int .u64 d.q]
def dv (d : Dl) : Value := .agg (drow d)
theorem badTerms_any (d : Dl) (w : World) : Calls Tryz.prog 21 #[dv d] w fun e w' => e = .returned (.int .i64 (terr d)) ∧ Below w.heap.size w w' := by
 obtain ⟨i, b, s, t, p, q⟩ := d
 have CP := hid (fun U => isPrice_any p U)
 obtain ⟨r, hr⟩ : ∃ r, decide (0 ≤ p ∧ p < 262144) = r := ⟨_, rfl⟩
 have HR := hid hr
 rw [hr] at CP
 clear hr
 obtain ⟨W, hW⟩ : ∃ W, w.alloc (.cells #[.int .u32 i, .int .u32 b, .int .u32 s, .int .i64 t, .int .i64 p, .int .u64 q] 59) = W := ⟨_, rfl⟩
 have BW := hid (show Below w.heap.size w W from by rw [← hW]; exact ball _ _)
 have RW := hid (show W.heap[w.heap.size]? = some (.cells #[.int .u32 i, .int .u32 b, .int .u32 s, .int .i64 t, .int .i64 p, .int .u64 q] 59 (0, 0)) from by rw [← hW]; exact World.alloc_heap_new _ _)
 have g4 := row_cell RW.out 4
 have g5 := row_cell RW.out 5
 simp only [lqA, lqB, lqC] at g4 g5
 have HT := hid (show terr ⟨i, b, s, t, p, q⟩ = if r = true then (if q < 1 ∨ 4294967295 < q then 95 else 0) else 94 from by
  unfold terr
  rw [← HR.out]
  by_cases h : 0 ≤ p ∧ p < 262144
  ·simp only [h, decide_true, and_self, if_true]
   rw [if_neg (by omega)]
  ·simp only [h, decide_false, Bool.false_eq_true, if_false]
   rw [if_pos (by omega)])
 rw [HT.out]
 cases r with
 | false =>
  unfold dv drow
  go_enter Tryz.func21, Tryz.ntmps21
  go_wp2_with (first | (go_at_call 47; with_reducible refine (CP.out _).mono ?_; rintro e w9 ⟨rfl, h9⟩; subst w9) | rw [hW])
  refine bodyPost_ret (v := .int .i64 94) (by simp [results, Tryz.results21, go_sem]) rfl ⟨rfl, BW.out⟩
 | true =>
  by_cases h1 : q < 1
  ·have e : (if q < 1 ∨ 4294967295 < q then 95 else 0 : Int) = 95 := if_pos (.inl h1)
   simp only [if_true]
   rw [e]
   clear e
   unfold dv drow
   go_enter Tryz.func21, Tryz.ntmps21
   go_wp2_with (first | (go_at_call 47; with_reducible refine (CP.out _).mono ?_; rintro e w9 ⟨rfl, h9⟩; subst w9) | rw [hW])
   refine bodyPost_ret (v := .int .i64 95) (by simp [results, Tryz.results21, go_sem]) rfl ⟨rfl, BW.out⟩
  ·by_cases h2 : 4294967295 < q
   ·have e : (if q < 1 ∨ 4294967295 < q then 95 else 0 : Int) = 95 := if_pos (.inr h2)
    simp only [if_true]
    rw [e]
    clear e
    unfold dv drow
    go_enter Tryz.func21, Tryz.ntmps21
    go_wp2_with (first | (go_at_call 47; with_reducible refine (CP.out _).mono ?_; rintro e w9 ⟨rfl, h9⟩; subst w9) | rw [hW])
    refine bodyPost_ret (v := .int .i64 95) (by simp [results, Tryz.results21, go_sem]) rfl ⟨rfl, BW.out⟩
   ·have e : (if q < 1 ∨ 4294967295 < q then 95 else 0 : Int) = 0 := if_neg (by omega)
    simp only [if_true]
    rw [e]
    clear e
    unfold dv drow
    go_enter Tryz.func21, Tryz.ntmps21
    go_wp2_with (first | (go_at_call 47; with_reducible refine (CP.out _).mono ?_; rintro e w9 ⟨rfl, h9⟩; subst w9) | rw [hW])
    refine bodyPost_ret (v := .int .i64 0) (by simp [results, Tryz.results21, go_sem]) rfl ⟨rfl, BW.out⟩
theorem value_any (d : Dl) (w : World) (h0 : 0 ≤ d.pr) (h1 : d.pr < 262144) (hq : Word d.q) : Calls Tryz.prog 35 #[dv d] w fun e w' => e = .returned (mv (d.pr * d.q)) ∧ Below w.heap.size w w' := by
 obtain ⟨i, b, s, t, p, q⟩ := d
 have C := hid (fun U => numTimes_any p q U h0 (Int.lt_trans h1 (by decide)) hq)
 have wp : IntKind.u32.wrap p = p := by have h0 : 0 ≤ p := h0; have h1 : p < 262144 := h1; rw [IntKind.wrap_u32]; omega
 clear h0 h1 hq
 obtain ⟨W, hW⟩ : ∃ W, w.alloc (.cells #[.int .u32 i, .int .u32 b, .int .u32 s, .int .i64 t, .int .i64 p, .int .u64 q] 59) = W := ⟨_, rfl⟩
 have BW := hid (show Below w.heap.size w W from by rw [← hW]; exact ball _ _)
 have RW := hid (show W.heap[w.heap.size]? = some (.cells #[.int .u32 i, .int .u32 b, .int .u32 s, .int .i64 t, .int .i64 p, .int .u64 q] 59 (0, 0)) from by rw [← hW]; exact World.alloc_heap_new _ _)
 obtain ⟨Z, hZ⟩ : ∃ Z, W.alloc (.cells #[.int .u64 0, .int .u64 0] 33) = Z := ⟨_, rfl⟩
 have BZ := hid (show Below W.heap.size W Z from by rw [← hZ]; exact ball _ _)
 have RZ := hid (show Z.heap[W.heap.size]? = some (.cells #[.int .u64 0, .int .u64 0] 33 (0, 0)) from by rw [← hZ]; exact World.alloc_heap_new _ _)
 have RY := hid (row_on RW.out BZ.out)
 have g4 := row_cell RY.out 4
 have g5 := row_cell RY.out 5
 simp only [lqA, lqB, lqC] at g4 g5
 obtain ⟨g, hg⟩ : ∃ g, W.heap.size = g := ⟨_, rfl⟩
 have HG := hid (show w.heap.size ≤ g from by rw [← hg]; exact BW.out.size)
 rw [hg] at RZ
 obtain ⟨v, hv⟩ : ∃ v, p * q = v := ⟨_, rfl⟩
 show Calls Tryz.prog 35 #[.agg #[.int .u32 i, .int .u32 b, .int .u32 s, .int .i64 t, .int .i64 p, .int .u64 q]] w fun e w' => e = .returned (mv (p * q)) ∧ Below w.heap.size w w'
 rw [hv] at C ⊢
 go_enter Tryz.func35, Tryz.ntmps35
 go_wp2_with (first | (go_at_call 67; with_reducible refine (C.out _).mono ?_; rintro e X ⟨rfl, hX⟩; have HX := hid hX; clear hX; have RX := hid (row_on RZ.out HX.out)) | (unfold mv; refine wpList_store_row (by rfl) 33 (.tmp 2) (.tmp 8) (by rfl) g #[.int .u64 (hiW v), .int .u64 (loW v)] (by rfl) (by rfl) 33 _ RX.out infoM2 (by rfl) (by simp [Value.oneCell']) ?_) | (rw [hW, hZ, hg]))
 exact bodyPost_ret (res_c Tryz.results35 _ _ g 33 #[.int .u64 (hiW v), .int .u64 (loW v)] (0, 0) _ (by rfl) (setRow_heap _ _ _ _ 33 (0, 0) RX.out) Tryz.underlying33 rfl infoM2) rfl ⟨rfl, setRow_below (btr (btr BW.out BZ.out) HX.out) HG.out⟩
theorem plus_any (a b : Int) (w : World) (ha : Amt a) (hb : Amt b) : Calls Tryz.prog 48 #[mv a, mv b] w fun e w' => e = .returned (mv (maddV a b)) ∧ Below w.heap.size w w' := by
 have C := hid (fun U => madd_any a b U ha hb)
 obtain ⟨n, hn⟩ : ∃ n, maddV a b = n := ⟨_, rfl⟩
 obtain ⟨er, her⟩ : ∃ n, maddE a b = n := ⟨_, rfl⟩
 rw [hn, her] at C
 rw [hn]
 clear ha hb hn her
 obtain ⟨g2, hg2⟩ : ∃ g, w.heap.size = g := ⟨_, rfl⟩
 obtain ⟨Wa, hWa⟩ : ∃ W, w.alloc (.cells #[.int .u64 (hiW a), .int .u64 (loW a)] 33) = W := ⟨_, rfl⟩
 obtain ⟨g3, hg3⟩ : ∃ g, Wa.heap.size = g := ⟨_, rfl⟩
 obtain ⟨Wb, hWb⟩ : ∃ W, Wa.alloc (.cells #[.int .u64 (hiW b), .int .u64 (loW b)] 33) = W := ⟨_, rfl⟩
 obtain ⟨g4, hg4⟩ : ∃ g, Wb.heap.size = g := ⟨_, rfl⟩
 obtain ⟨Wc, hWc⟩ : ∃ W, Wb.alloc (.cells #[.int .u64 0, .int .u64 0] 33) = W := ⟨_, rfl⟩
 have ba : Below w.heap.size w Wa := by rw [← hWa]; exact ball _ _
 have bb : Below Wa.heap.size Wa Wb := by rw [← hWb]; exact ball _ _
 have bc : Below Wb.heap.size Wb Wc := by rw [← hWc]; exact ball _ _
 have R2b := hid (show Wb.heap[g2]? = some (.cells #[.int .u64 (hiW a), .int .u64 (loW a)] 33 (0, 0)) from row_on (by rw [← hWa, ← hg2]; exact World.alloc_heap_new _ _) bb)
 have R3b := hid (show Wb.heap[g3]? = some (.cells #[.int .u64 (hiW b), .int .u64 (loW b)] 33 (0, 0)) from by rw [← hWb, ← hg3]; exact World.alloc_heap_new _ _)
 have HBC := hid bc
 have HG4 := hid (show Wb.heap.size ≤ g4 from by rw [hg4]; exact Nat.le_refl _)
 have HBB := hid (btr ba bb)
 have R2 := hid (show Wc.heap[g2]? = some (.cells #[.int .u64 (hiW a), .int .u64 (loW a)] 33 (0, 0)) from row_on (row_on (by rw [← hWa, ← hg2]; exact World.alloc_heap_new _ _) bb) bc)
 have R3 := hid (show Wc.heap[g3]? = some (.cells #[.int .u64 (hiW b), .int .u64 (loW b)] 33 (0, 0)) from row_on (by rw [← hWb, ← hg3]; exact World.alloc_heap_new _ _) bc)
 have R4 := hid (show Wc.heap[g4]? = some (.cells #[.int .u64 0, .int .u64 0] 33 (0, 0)) from by rw [← hWc, ← hg4]; exact World.alloc_heap_new _ _)
 have BC := hid (btr (btr ba bb) bc)
 have HG := hid (show w.heap.size ≤ g4 from by rw [← hg4]; exact (btr ba bb).size)
 have HGc := hid (show g4 < Wc.heap.size from row_lt R4.out)
 have k0 := row_cell R2.out 0
 have k1 := row_cell R2.out 1
 have k2 := row_cell R3.out 0
 have k3 := row_cell R3.out 1
 simp only [lqA, lqB, lqC] at k0 k1 k2 k3
 clear ba bb bc
 unfold mv at C ⊢
 go_enter Tryz.func48, Tryz.ntmps48
 go_upto_region 1 with fail
 go_upto_region 2 with (first | (go_at_call 26; with_reducible refine (C.out _).mono ?_; rintro e X ⟨rfl, hX⟩; have HX := hid hX; clear hX; have HZ := hid (World.alloc_heap_new X (.cells #[.int .u64 0, .int .u64 0] 33))) | (refine wpList_store_row (by rfl) 33 (.tmp 5) (.tmp 11) (by rfl) X.heap.size #[.int .u64 (hiW n), .int .u64 (loW n)] (by rfl) (by rfl) 33 _ HZ.out infoM2 (by rfl) (by simp [Value.oneCell']) ?_))
 obtain ⟨Y, hY⟩ : ∃ Y, (X.alloc (.cells #[.int .u64 0, .int .u64 0] 33)).setRow X.heap.size #[.int .u64 (hiW n), .int .u64 (loW n)] = Y := ⟨_, rfl⟩
 have GY := hid (show Y.heap[X.heap.size]? = some (.cells #[.int .u64 (hiW n), .int .u64 (loW n)] 33 (0, 0)) from by rw [← hY]; exact setRow_heap _ _ _ _ 33 (0, 0) HZ.out)
 have BY := hid (show Below X.heap.size X Y from by rw [← hY]; exact setRow_below (ball _ _) (Nat.le_refl _))
 rw [hY]
 obtain ⟨y, hy⟩ : ∃ y, X.heap.size = y := ⟨_, rfl⟩
 rw [hy] at GY ⊢
 have RY := hid (row_on (row_on R4.out HX.out) BY.out)
 clear hY hy HZ k0 k1 k2 k3
 have k0 := row_cell GY.out 0
 have k1 := row_cell GY.out 1
 simp only [lqA, lqB, lqC] at k0 k1
 go_wp2_with (refine wpList_store_row (by rfl) 33 (.tmp 4) (.tmp 13) (by rfl) g4 #[.int .u64 (hiW n), .int .u64 (loW n)] (by rfl) (by rfl) 33 _ RY.out infoM2 (by rfl) (by simp [Value.oneCell']) ?_)
 exact bodyPost_ret (res_c Tryz.results48 _ _ g4 33 #[.int .u64 (hiW n), .int .u64 (loW n)] (0, 0) _ (by rfl) (setRow_heap _ _ _ _ 33 (0, 0) RY.out) Tryz.underlying33 rfl infoM2) rfl ⟨rfl, setRow_below (btr (btr BC.out HX.out) BY.out) HG.out⟩
theorem less_any (a b : Int) (w : World) (ha : Amt a) (hb : Amt b) : Calls Tryz.prog 49 #[mv a, mv b] w fun e w' => e = .returned (mv (maddV a (-b))) ∧ Below w.heap.size w w' := by
 have CN := hid (fun U => neg_any b U)
 have CP := hid (fun U => plus_any a (-b) U ha (amt_neg b hb))
 obtain ⟨n, hn⟩ : ∃ n, maddV a (-b) = n := ⟨_, rfl⟩
 rw [hn] at CP
 rw [hn]
 clear ha hb hn
 obtain ⟨g2, hg2⟩ : ∃ g, w.heap.size = g := ⟨_, rfl⟩
 obtain ⟨Wa, hWa⟩ : ∃ W, w.alloc (.cells #[.int .u64 (hiW a), .int .u64 (loW a)] 33) = W := ⟨_, rfl⟩
 obtain ⟨g3, hg3⟩ : ∃ g, Wa.heap.size = g := ⟨_, rfl⟩
 obtain ⟨Wb, hWb⟩ : ∃ W, Wa.alloc (.cells #[.int .u64 (hiW b), .int .u64 (loW b)] 33) = W := ⟨_, rfl⟩
 obtain ⟨g4, hg4⟩ : ∃ g, Wb.heap.size = g := ⟨_, rfl⟩
 obtain ⟨Wc, hWc⟩ : ∃ W, Wb.alloc (.cells #[.int .u64 0, .int .u64 0] 33) = W := ⟨_, rfl⟩
 have ba : Below w.heap.size w Wa := by rw [← hWa]; exact ball _ _
 have bb : Below Wa.heap.size Wa Wb := by rw [← hWb]; exact ball _ _
 have bc : Below Wb.heap.size Wb Wc := by rw [← hWc]; exact ball _ _
 have R2b := hid (show Wb.heap[g2]? = some (.cells #[.int .u64 (hiW a), .int .u64 (loW a)] 33 (0, 0)) from row_on (by rw [← hWa, ← hg2]; exact World.alloc_heap_new _ _) bb)
 have R3b := hid (show Wb.heap[g3]? = some (.cells #[.int .u64 (hiW b), .int .u64 (loW b)] 33 (0, 0)) from by rw [← hWb, ← hg3]; exact World.alloc_heap_new _ _)
 have HBC := hid bc
 have HG4 := hid (show Wb.heap.size ≤ g4 from by rw [hg4]; exact Nat.le_refl _)
 have HBB := hid (btr ba bb)
 have R2 := hid (show Wc.heap[g2]? = some (.cells #[.int .u64 (hiW a), .int .u64 (loW a)] 33 (0, 0)) from row_on (row_on (by rw [← hWa, ← hg2]; exact World.alloc_heap_new _ _) bb) bc)
 have R3 := hid (show Wc.heap[g3]? = some (.cells #[.int .u64 (hiW b), .int .u64 (loW b)] 33 (0, 0)) from row_on (by rw [← hWb, ← hg3]; exact World.alloc_heap_new _ _) bc)
 have R4 := hid (show Wc.heap[g4]? = some (.cells #[.int .u64 0, .int .u64 0] 33 (0, 0)) from by rw [← hWc, ← hg4]; exact World.alloc_heap_new _ _)
 have BC := hid (btr (btr ba bb) bc)
 have HG := hid (show w.heap.size ≤ g4 from by rw [← hg4]; exact (btr ba bb).size)
 have HGc := hid (show g4 < Wc.heap.size from row_lt R4.out)
 clear ba bb bc
 have K0 := hid (show ∀ U, Below Wb.heap.size Wb U → U.cell? ⟨g2, 0, none⟩ = some (.int .u64 (hiW a)) from fun U hU => row_cell (row_on R2b.out hU) 0)
 have K1 := hid (show ∀ U, Below Wb.heap.size Wb U → U.cell? ⟨g2, 1, none⟩ = some (.int .u64 (loW a)) from fun U hU => row_cell (row_on R2b.out hU) 1)
 have K2 := hid (show ∀ U, Below Wb.heap.size Wb U → U.cell? ⟨g3, 0, none⟩ = some (.int .u64 (hiW b)) from fun U hU => row_cell (row_on R3b.out hU) 0)
 have K3 := hid (show ∀ U, Below Wb.heap.size Wb U → U.cell? ⟨g3, 1, none⟩ = some (.int .u64 (loW b)) from fun U hU => row_cell (row_on R3b.out hU) 1)
 unfold mv at CN CP ⊢
 go_enter Tryz.func49, Tryz.ntmps49
 go_upto_region 1 with fail
 obtain ⟨V1, hV1⟩ : ∃ U, Wc.drew = U := ⟨_, rfl⟩
 have DV1 := hid (show Below Wc.heap.size Wc V1 from by rw [← hV1]; exact bdrew1 _)
 have BV1 := hid (btr (HBC.out) DV1.out)
 have Rw2 := hid (row_on R4.out DV1.out)
 refine wp_region_held_drew (S := fun U => U.cell? ⟨g2, 0, none⟩ = some (.int .u64 (hiW a)) ∧ U.cell? ⟨g2, 1, none⟩ = some (.int .u64 (loW a)) ∧ U.cell? ⟨g3, 0, none⟩ = some (.int .u64 (hiW b)) ∧ U.cell? ⟨g3, 1, none⟩ = some (.int .u64 (loW b))) (by kernel_rfl) ?_ (fun hHeld => ?_)
 ·(try dsimp only); rw [hV1]; exact ⟨K0.out _ BV1.out, K1.out _ BV1.out, K2.out _ BV1.out, K3.out _ BV1.out⟩
 rw [hV1] at hHeld ⊢
 clear hV1
 refine' tkz 0 rfl ?_ ?_
 rotate_left
 ·(intro w hSw; (try dsimp only at hSw); go_simp; try (with_reducible rfl))
 try simp only [lgA, lgB, lgC, Act.put, lsA, lsB, lsC]
 refine' tkz 1 rfl ?_ ?_
 rotate_left
 ·(intro w hSw; (try dsimp only at hSw); go_simp; try (with_reducible rfl))
 try simp only [lgA, lgB, lgC, Act.put, lsA, lsB, lsC]
 refine wpAnyH_ready (rs := [2]) (by kernel_rfl) (by simp) ?_
 refine (AllReadyH.cons rfl (fun K hK => ?_) AllReadyH.nil)
 go_simp
 go_at_call 37
 with_reducible refine (CN.out V1).mono ?_
 rintro e X3 ⟨rfl, DbX3⟩
 have DX3 := hid (btr DV1.out DbX3)
 have BX3 := hid (btr BV1.out DbX3)
 have Rw4 := hid (row_on Rw2.out DbX3)
 (try go_wp2_with fail)
 refine hK.out _ _ ?_ (fun hHeld => ?_)
 ·(try dsimp only); exact ⟨K0.out _ BX3.out, K1.out _ BX3.out, K2.out _ BX3.out, K3.out _ BX3.out⟩
 clear hK K
 try simp only [lgA, lgB, lgC, Act.put, lsA, lsB, lsC]
 refine wpAnyH_ready (rs := [3]) (by kernel_rfl) (by simp) ?_
 refine (AllReadyH.cons rfl (fun K hK => ?_) AllReadyH.nil)
 go_simp
 go_at_call 48
 with_reducible refine (CP.out X3).mono ?_
 rintro e X5 ⟨rfl, DbX5⟩
 have DX5 := hid (btr DX3.out DbX5)
 have BX5 := hid (btr BX3.out DbX5)
 have Rw6 := hid (row_on Rw4.out DbX5)
 (try go_wp2_with fail)
 refine hK.out _ _ ?_ (fun hHeld => ?_)
 ·(try dsimp only); exact ⟨K0.out _ BX5.out, K1.out _ BX5.out, K2.out _ BX5.out, K3.out _ BX5.out⟩
 clear hK K
 try simp only [lgA, lgB, lgC, Act.put, lsA, lsB, lsC]
 refine wpAnyH_ready (rs := [4]) (by kernel_rfl) (by simp) ?_
 refine (AllReadyH.cons rfl (fun K hK => ?_) AllReadyH.nil)
 refine step_store_row (by rfl) 33 (.tmp 4) (.tmp 8) (by rfl) g4 #[.int .u64 (hiW n), .int .u64 (loW n)] (by rfl) (by rfl) 33 _ Rw6.out infoM2 (by rfl) (by simp [Value.oneCell']) ?_
 have AY7 := hid (setRow_heap X5 g4 _ #[.int .u64 (hiW n), .int .u64 (loW n)] 33 (0, 0) Rw6.out)
 have BY7 := hid (setRow_below (cs := #[.int .u64 (hiW n), .int .u64 (loW n)]) BX5.out HG4.out)
 obtain ⟨Y7, hY7⟩ : ∃ Y, X5.setRow g4 #[.int .u64 (hiW n), .int .u64 (loW n)] = Y := ⟨_, rfl⟩
 rw [hY7] at AY7 BY7 ⊢
 clear hY7
 refine hK.out _ _ ?_ (fun hHeld => ?_)
 ·(try dsimp only); exact ⟨K0.out _ BY7.out, K1.out _ BY7.out, K2.out _ BY7.out, K3.out _ BY7.out⟩
 clear hK K
 try simp only [lgA, lgB, lgC, Act.put, lsA, lsB, lsC]
 refine wpAnyH_done (by kernel_rfl) ?_ _
 go_wp2
 exact bodyPost_ret (res_c Tryz.results49 _ _ g4 33 #[.int .u64 (hiW n), .int .u64 (loW n)] (0, 0) _ (by rfl) AY7.out Tryz.underlying33 rfl infoM2) rfl ⟨rfl, btr HBB.out BY7.out⟩
theorem terr_ok {d : Dl} (h : terr d = 0) : (0 ≤ d.pr ∧ d.pr < 262144) ∧ 1 ≤ d.q ∧ d.q ≤ 4294967295 ∧ Amt (d.pr * d.q) := by
 unfold terr at h
 split at h
 ·cases h
 ·rename_i h1
  split at h
  ·cases h
  ·rename_i h2
   have a0 : 0 ≤ d.pr := by omega
   have a1 : d.pr ≤ 262143 := by omega
   have b0 : 1 ≤ d.q := by omega
   have b1 : d.q ≤ 4294967295 := by omega
   have m0 : 0 ≤ d.pr * d.q := Int.mul_nonneg a0 (by omega)
   have m1 := Int.mul_le_mul (a := d.pr) (b := d.q) (c := 262143) (d := 4294967295) a1 b1 (by omega) (by omega)
   exact ⟨⟨a0, by omega⟩, b0, b1, by unfold Amt; omega⟩
end Go.Proofs.YtlhbgaiiehljpaaGreat.Ac
