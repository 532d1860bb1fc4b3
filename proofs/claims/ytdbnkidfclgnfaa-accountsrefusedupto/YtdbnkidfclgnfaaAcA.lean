/-
  The small calls of the accounts.
-/
import Derived.Test.YtdbnkidfclgnfaaAcM
import Derived.Test.YtdbnkidfclgnfaaMonF
import Derived.Test.YtdbnkidfclgnfaaTexB
namespace Go.Proofs.Ytdbnkidfclgnfaa.Ac
open Go.RowKit Go.Deep Go.Proofs.Ytdbnkidfclgnfaa.MonM
set_option linter.unusedVariables false
set_option linter.unusedSimpArgs false
set_option maxHeartbeats 4000000
set_option maxRecDepth 100000
attribute [local go_sem ↓] Go.wp_at_zero Go.wp_at_succ
theorem infoM : (Try.prog.info? 36).map (·.size) = some 2 := by kernel_rfl
theorem infoC : (Try.prog.info? 51).map (·.size) = some 2 := by kernel_rfl
theorem setRow_kp (w : World) (g : Nat) (cs : Array Value) : Kp (fun b => b = g) w (w.setRow g cs) :=
  ⟨rfl, rfl, rfl, by simp [World.setRow], fun b _ hb => setRow_other w g b cs (fun e => hb e)⟩
theorem setRow_below {w W : World} {g : Nat} {cs : Array Value} (h : Below w.heap.size w W) (hg : w.heap.size ≤ g) : Below w.heap.size w (W.setRow g cs) := h.trans ((setRow_kp W g cs).below h.size (fun b hb e => by omega))
theorem reg_cut {P : Program} {id : Nat} {ops : Array Oper} {b : Bool} {Q : Exit → Act → World → Prop} {a : Act} {w : World} {X : Type} (F : Act → X → Act) (T : X → World → Prop)
    (h1 : (Code.region id ops b).wp P (fun e a' w' => match e with | .normal => ∃ x, a' = F a x ∧ T x w' | _ => False) a w)
    (h2 : ∀ x w', T x w' → Q .normal (F a x) w') : (Code.region id ops b).wp P Q a w :=
  wp_mono h1 (fun e a' w' h => by
    cases e with
    | normal => obtain ⟨x, rfl, ht⟩ := h; exact h2 x w' ht
    | _ => exact h.elim)
theorem step_store_row {P : Program} {w : World} {ops : Array Oper} {o : Oper} {a : Act} {K : Act → World → Prop} {Q : Exit → Act → World → Prop} {E : Prop} (hgd : o.guard = none) (ty : TypeId) (x y : Operand) (ho : o.op = .store ty x y)
    (g : Nat) (cells : Array Value) (hx : a.eval x = .pointer (some ⟨g, 0, none⟩)) (hy : a.eval y = .agg cells)
    (t : TypeId) (old : Array Value) (hg : w.heap[g]? = some (.cells old t (0, 0))) (hi : (P.info? ty).map (·.size) = some cells.size)
    (hold : old.size = cells.size) (h1 : cells.all (·.oneCell') = true)
    (h : K (a.put o.dst undef) (w.setRow g cells)) : if Region.wanted o (yielded ops a.tmps) = true then Oper.wp P o a w K Q else E := by
  have hw : Region.wanted o (yielded ops a.tmps) = true := by simp [Region.wanted, hgd]
  rw [if_pos hw]
  exact wp_store_row ty x y ho g cells hx hy t old hg hi hold h1 h
def isPr (p : Int) : Bool := decide (0 ≤ p ∧ p < 262144)
theorem isPrice_any (p : Int) (w : World) : Calls Try.prog 31 #[.int .i64 p] w fun e w' => e = .returned (.bool (isPr p)) ∧ w' = w := by
  by_cases h0 : 0 ≤ p
  · by_cases h1 : p < 262144
    · have e : isPr p = true := by simp [isPr, h0, h1]
      have a : decide (0 ≤ p) = true := by simp [h0]
      have b : decide (p < 262144) = true := by simp [h1]
      rw [e]
      go_enter Try.func31, Try.ntmps31
      go_wp2
      go_ret
      exact ⟨rfl, rfl⟩
    · have e : isPr p = false := by simp [isPr, h1]
      have a : decide (0 ≤ p) = true := by simp [h0]
      have b : decide (p < 262144) = false := by simp [h1]
      rw [e]
      go_enter Try.func31, Try.ntmps31
      go_wp2
      go_ret
      exact ⟨rfl, rfl⟩
  · have e : isPr p = false := by simp [isPr, h0]
    have a : decide (0 ≤ p) = false := by simp [h0]
    rw [e]
    go_enter Try.func31, Try.ntmps31
    go_wp2
    go_ret
    exact ⟨rfl, rfl⟩
theorem size_any (n : Int) (w : World) (h0 : -9223372036854775808 < n) (h1 : n < 9223372036854775808) : Calls Try.prog 21 #[.int .i64 n] w fun e w' => e = .returned (.int .u64 (absI n)) ∧ w' = w := by
  by_cases h : n < 0
  · have e : absI n = -n := if_pos h
    have a : decide (n < 0) = true := by simp [h]
    have b : IntKind.i64.wrap (-n) = -n := by rw [IntKind.wrap_i64]; omega
    have c : IntKind.u64.wrap (-n) = -n := by rw [IntKind.wrap_u64]; omega
    rw [e]
    go_enter Try.func21, Try.ntmps21
    go_wp2
    go_ret
    exact ⟨rfl, rfl⟩
  · have e : absI n = n := if_neg h
    have a : decide (n < 0) = false := by simp [h]
    have c : IntKind.u64.wrap n = n := by rw [IntKind.wrap_u64]; omega
    rw [e]
    go_enter Try.func21, Try.ntmps21
    go_wp2
    go_ret
    exact ⟨rfl, rfl⟩
theorem cash_any (m : Int) (w : World) : Calls Try.prog 23 #[.int .u32 m] w fun e w' => e = .returned (.agg #[.int .u32 m, .int .i64 1]) ∧ Below w.heap.size w w' := by
  have HZ := hid (World.alloc_heap_new w (.cells #[.int .u32 0, .int .i64 0] 51))
  have HB := hid (ball w (.cells #[.int .u32 0, .int .i64 0] 51))
  obtain ⟨W, hW⟩ : ∃ W, w.alloc (.cells #[.int .u32 0, .int .i64 0] 51) = W := ⟨_, rfl⟩
  rw [hW] at HZ HB
  have HW := hid hW
  clear hW
  go_enter Try.func23, Try.ntmps23
  go_upto_region 1 with fail
  rw [HW.out]
  go_wp2_with (refine wpList_store_row (by rfl) 51 (.tmp 2) (.tmp 4) (by rfl) w.heap.size #[.int .u32 m, .int .i64 1] (by rfl) (by rfl) 51 _ HZ.out infoC (by rfl) (by simp [Value.oneCell']) ?_)
  refine bodyPost_ret (results_cell_row (fn := Try.f23) Try.results23 _ _ w.heap.size 51 #[.int .u32 m, .int .i64 1] (0, 0) _ (by rfl) (setRow_heap _ _ _ _ 51 (0, 0) HZ.out) Try.underlying51 rfl infoC) rfl ⟨rfl, ?_⟩
  exact setRow_below HB.out (Nat.le_refl _)
/-- the two words of an amount. -/
def mc (m : Int) : Array Value := #[.int .u64 (hiW m), .int .u64 (loW m)]
theorem plus_any (m n : Int) (w : World) (hm : Amt m) (hn : Amt n) : Calls Try.prog 35 #[mv m, mv n] w fun e w' => e = .returned (mv (maddV m n)) ∧ Below w.heap.size w w' := by
  obtain ⟨Wa, hWa⟩ : ∃ W, w.alloc (.cells (mc m) 36) = W := ⟨_, rfl⟩
  obtain ⟨Wb, hWb⟩ : ∃ W, Wa.alloc (.cells (mc n) 36) = W := ⟨_, rfl⟩
  obtain ⟨Wc, hWc⟩ : ∃ W, Wb.alloc (.cells #[.int .u64 0, .int .u64 0] 36) = W := ⟨_, rfl⟩
  obtain ⟨R, hR⟩ : ∃ R, w.heap.size = R := ⟨_, rfl⟩
  have sa : Wa.heap.size = R + 1 := by rw [← hWa, ← hR]; exact Array.size_push _
  have sb : Wb.heap.size = R + 1 + 1 := by rw [← hWb]; exact (Array.size_push _).trans (by rw [sa])
  have ba : Below w.heap.size w Wa := by rw [← hWa]; exact ball _ _
  have bb : Below Wa.heap.size Wa Wb := by rw [← hWb]; exact ball _ _
  have bc : Below Wb.heap.size Wb Wc := by rw [← hWc]; exact ball _ _
  have ra : Wc.heap[R]? = some (.cells (mc m) 36 (0, 0)) := row_on (row_on (by rw [← hWa, ← hR]; exact World.alloc_heap_new _ _) bb) bc
  have rb : Wc.heap[R + 1]? = some (.cells (mc n) 36 (0, 0)) := row_on (by rw [← hWb, ← sa]; exact World.alloc_heap_new _ _) bc
  have rc : Wc.heap[R + 1 + 1]? = some (.cells #[.int .u64 0, .int .u64 0] 36 (0, 0)) := by rw [← hWc, ← sb]; exact World.alloc_heap_new _ _
  have HBC := hid (btr (btr ba bb) bc)
  have HA := hid (fun U => madd_any m n U hm hn)
  have HRC := hid rc
  have a0 := row_cell ra 0
  have a1 := row_cell ra 1
  have b0 := row_cell rb 0
  have b1 := row_cell rb 1
  unfold mc at hWa hWb a0 a1 b0 b1
  simp only [List.getElem?_toArray, List.getElem?_cons_succ, List.getElem?_cons_zero] at a0 a1 b0 b1
  have HWa := hid hWa
  have HWb := hid hWb
  have HWc := hid hWc
  have HR := hid hR
  have SA := hid sa
  have SB := hid sb
  have HV := hid (show ∀ x, mv x = .agg #[.int .u64 (hiW x), .int .u64 (loW x)] from fun x => rfl)
  unfold mv at HA ⊢
  obtain ⟨v, hv⟩ : ∃ v, maddV m n = v := ⟨_, rfl⟩
  obtain ⟨ee, hee⟩ : ∃ v, maddE m n = v := ⟨_, rfl⟩
  rw [hv, hee] at HA
  rw [hv]
  clear hWa hWb hWc ra rb rc ba bb bc hm hn hR sa sb hv hee
  go_enter Try.func35, Try.ntmps35
  go_upto_region 1 with fail
  rw [HWa.out, HWb.out, HWc.out, HR.out]
  clear HWa HWb HWc SA SB
  go_upto_region 2 with (first | (go_at_call 39; with_reducible refine (HA.out _).mono ?_; rintro e w4 ⟨rfl, hb⟩; have HB4 := hid hb; have HZ4 := hid (World.alloc_heap_new w4 (.cells #[.int .u64 0, .int .u64 0] 36)); clear hb) | (refine wpList_store_row (by rfl) 36 (.tmp 5) (.tmp 11) (by rfl) w4.heap.size #[.int .u64 (hiW v), .int .u64 (loW v)] (by rfl) (by rfl) 36 _ HZ4.out infoM (by rfl) (by simp [Value.oneCell']) ?_))
  obtain ⟨X, hX⟩ : ∃ X, (w4.alloc (.cells #[.int .u64 0, .int .u64 0] 36)).setRow w4.heap.size #[.int .u64 (hiW v), .int .u64 (loW v)] = X := ⟨_, rfl⟩
  have GX := hid (show X.heap[w4.heap.size]? = some (.cells #[.int .u64 (hiW v), .int .u64 (loW v)] 36 (0, 0)) from by rw [← hX]; exact setRow_heap _ _ _ _ 36 (0, 0) HZ4.out)
  have BX := hid (show Below w4.heap.size w4 X from by rw [← hX]; exact setRow_below (ball _ _) (Nat.le_refl _))
  rw [hX]
  clear hX HZ4 a0 a1 b0 b1
  have c0 := row_cell GX.out 0
  have c1 := row_cell GX.out 1
  simp only [List.getElem?_toArray, List.getElem?_cons_succ, List.getElem?_cons_zero] at c0 c1
  have HRX := hid (row_on (row_on HRC.out HB4.out) BX.out)
  go_wp2_with (refine wpList_store_row (by rfl) 36 (.tmp 4) (.tmp 13) (by rfl) (R + 1 + 1) #[.int .u64 (hiW v), .int .u64 (loW v)] (by rfl) (by rfl) 36 _ HRX.out infoM (by rfl) (by simp [Value.oneCell']) ?_)
  refine bodyPost_ret (results_cell_row (fn := Try.f35) Try.results35 _ _ (R + 1 + 1) 36 #[.int .u64 (hiW v), .int .u64 (loW v)] (0, 0) _ (by rfl) (setRow_heap _ _ _ _ 36 (0, 0) HRX.out) Try.underlying36 rfl infoM) rfl ⟨rfl, ?_⟩
  exact setRow_below (btr (btr HBC.out HB4.out) BX.out) (by have := HR.out; omega)
theorem less_any (m n : Int) (w : World) (hm : Amt m) (hn : Amt n) : Calls Try.prog 33 #[mv m, mv n] w fun e w' => e = .returned (mv (maddV m (-n))) ∧ Below w.heap.size w w' := by
  obtain ⟨Wa, hWa⟩ : ∃ W, w.alloc (.cells (mc m) 36) = W := ⟨_, rfl⟩
  obtain ⟨Wb, hWb⟩ : ∃ W, Wa.alloc (.cells (mc n) 36) = W := ⟨_, rfl⟩
  obtain ⟨Wc, hWc⟩ : ∃ W, Wb.alloc (.cells #[.int .u64 0, .int .u64 0] 36) = W := ⟨_, rfl⟩
  obtain ⟨R, hR⟩ : ∃ R, w.heap.size = R := ⟨_, rfl⟩
  have sa : Wa.heap.size = R + 1 := by rw [← hWa, ← hR]; exact Array.size_push _
  have sb : Wb.heap.size = R + 1 + 1 := by rw [← hWb]; exact (Array.size_push _).trans (by rw [sa])
  have ba : Below w.heap.size w Wa := by rw [← hWa]; exact ball _ _
  have bb : Below Wa.heap.size Wa Wb := by rw [← hWb]; exact ball _ _
  have bc : Below Wb.heap.size Wb Wc := by rw [← hWc]; exact ball _ _
  have ra : Wc.heap[R]? = some (.cells (mc m) 36 (0, 0)) := row_on (row_on (by rw [← hWa, ← hR]; exact World.alloc_heap_new _ _) bb) bc
  have rb : Wc.heap[R + 1]? = some (.cells (mc n) 36 (0, 0)) := row_on (by rw [← hWb, ← sa]; exact World.alloc_heap_new _ _) bc
  have rc : Wc.heap[R + 1 + 1]? = some (.cells #[.int .u64 0, .int .u64 0] 36 (0, 0)) := by rw [← hWc, ← sb]; exact World.alloc_heap_new _ _
  have HBC := hid (btr (btr ba bb) bc)
  have HA := hid (fun U => plus_any m (-n) U hm (by unfold Amt at hn ⊢; omega))
  have HN := hid (fun U => neg_any n U)
  have HRC := hid rc
  have HRA := hid ra
  have HRB := hid rb
  unfold mc at HRA HRB
  have a0 := row_cell ra 0
  have a1 := row_cell ra 1
  have b0 := row_cell rb 0
  have b1 := row_cell rb 1
  unfold mc at hWa hWb a0 a1 b0 b1
  simp only [List.getElem?_toArray, List.getElem?_cons_succ, List.getElem?_cons_zero] at a0 a1 b0 b1
  have HWa := hid hWa
  have HWb := hid hWb
  have HWc := hid hWc
  have HR := hid hR
  have SA := hid sa
  have SB := hid sb
  have HV := hid (show ∀ x, mv x = .agg #[.int .u64 (hiW x), .int .u64 (loW x)] from fun x => rfl)
  unfold mv at HA HN ⊢
  obtain ⟨v, hv⟩ : ∃ v, maddV m (-n) = v := ⟨_, rfl⟩
  rw [hv] at HA
  rw [hv]
  clear hWa hWb hWc ra rb rc ba bb bc hm hn hR sa sb hv
  clear a0 a1 b0 b1
  go_enter Try.func33, Try.ntmps33
  go_upto_region 1 with fail
  rw [HWa.out, HWb.out, HWc.out, HR.out]
  clear HWa HWb HWc SA SB
  obtain ⟨V0, hV0⟩ : ∃ U, Wc.drew = U := ⟨_, rfl⟩
  have DV0 := hid (show Below Wc.heap.size Wc V0 from by rw [← hV0]; exact bdrew1 _)
  have HS := hid (show ∀ U, Below Wc.heap.size Wc U → U.cell? ⟨R, 0, none⟩ = some (.int .u64 (hiW m)) ∧ U.cell? ⟨R, 1, none⟩ = some (.int .u64 (loW m)) ∧ U.cell? ⟨R + 1, 0, none⟩ = some (.int .u64 (hiW n)) ∧ U.cell? ⟨R + 1, 1, none⟩ = some (.int .u64 (loW n)) from fun U hU => ⟨row_cell (row_on HRA.out hU) 0, row_cell (row_on HRA.out hU) 1, row_cell (row_on HRB.out hU) 0, row_cell (row_on HRB.out hU) 1⟩)
  refine wp_region_held_drew (S := fun U => U.cell? ⟨R, 0, none⟩ = some (.int .u64 (hiW m)) ∧ U.cell? ⟨R, 1, none⟩ = some (.int .u64 (loW m)) ∧ U.cell? ⟨R + 1, 0, none⟩ = some (.int .u64 (hiW n)) ∧ U.cell? ⟨R + 1, 1, none⟩ = some (.int .u64 (loW n))) (by kernel_rfl) ?_ (fun hHeld => ?_)
  · (try dsimp only); rw [hV0]; exact HS.out _ DV0.out
  rw [hV0] at hHeld ⊢
  clear hV0
  refine' wpAnyH_take (i := 0) (oi := _) (v := _) rfl (by kernel_rfl) (by kernel_rfl) (by kernel_rfl) (fun _ _ _ h => h) (Or.inl ⟨by kernel_rfl, ?hyq1⟩) (by assumption) ?restq1
  case hyq1 => (intro w hSw; (try dsimp only at hSw); go_simp; try (with_reducible rfl))
  try simp only [List.getElem_toArray, List.getElem_cons_succ, List.getElem_cons_zero, Act.put, List.setIfInBounds_toArray, List.set_cons_zero, List.set_cons_succ]
  refine' wpAnyH_take (i := 1) (oi := _) (v := _) rfl (by kernel_rfl) (by kernel_rfl) (by kernel_rfl) (fun _ _ _ h => h) (Or.inl ⟨by kernel_rfl, ?hyq2⟩) (by assumption) ?restq2
  case hyq2 => (intro w hSw; (try dsimp only at hSw); go_simp; try (with_reducible rfl))
  try simp only [List.getElem_toArray, List.getElem_cons_succ, List.getElem_cons_zero, Act.put, List.setIfInBounds_toArray, List.set_cons_zero, List.set_cons_succ]
  refine wpAnyH_ready (rs := [2]) (by kernel_rfl) (by simp) ?_
  refine (AllReadyH.cons (o := _) rfl (fun K hK => ?_) AllReadyH.nil)
  go_simp
  go_at_call 20
  with_reducible refine (HN.out V0).mono ?_
  rintro e Y1 ⟨rfl, hb⟩
  have D1 := hid (btr DV0.out hb)
  clear hb
  (try go_wp2_with fail)
  refine hK.out _ _ ?_ (fun hHeld => ?_)
  · (try dsimp only); exact HS.out _ D1.out
  clear hK K
  try simp only [List.getElem_toArray, List.getElem_cons_succ, List.getElem_cons_zero, Act.put, List.setIfInBounds_toArray, List.set_cons_zero, List.set_cons_succ]
  refine wpAnyH_ready (rs := [3]) (by kernel_rfl) (by simp) ?_
  refine (AllReadyH.cons (o := _) rfl (fun K hK => ?_) AllReadyH.nil)
  go_simp
  go_at_call 35
  with_reducible refine (HA.out Y1).mono ?_
  rintro e Y2 ⟨rfl, hb⟩
  have D2 := hid (btr D1.out hb)
  clear hb
  (try go_wp2_with fail)
  refine hK.out _ _ ?_ (fun hHeld => ?_)
  · (try dsimp only); exact HS.out _ D2.out
  clear hK K
  try simp only [List.getElem_toArray, List.getElem_cons_succ, List.getElem_cons_zero, Act.put, List.setIfInBounds_toArray, List.set_cons_zero, List.set_cons_succ]
  refine wpAnyH_ready (rs := [4]) (by kernel_rfl) (by simp) ?_
  refine (AllReadyH.cons (o := _) rfl (fun K hK => ?_) AllReadyH.nil)
  have hrow := row_on HRC.out D2.out
  refine step_store_row (by rfl) 36 (.tmp 4) (.tmp 8) (by rfl) (R + 1 + 1) #[.int .u64 (hiW v), .int .u64 (loW v)] (by rfl) (by rfl) 36 _ hrow infoM (by rfl) (by simp [Value.oneCell']) ?_
  obtain ⟨Y3, hY3⟩ : ∃ Y, Y2.setRow (R + 1 + 1) #[.int .u64 (hiW v), .int .u64 (loW v)] = Y := ⟨_, rfl⟩
  have GY := hid (show Y3.heap[R + 1 + 1]? = some (.cells #[.int .u64 (hiW v), .int .u64 (loW v)] 36 (0, 0)) from by rw [← hY3]; exact setRow_heap _ _ _ _ 36 (0, 0) hrow)
  have KY := hid (show Kp (fun j => j = R + 1 + 1) Y2 Y3 from by rw [← hY3]; exact setRow_kp _ _ _)
  have BY3 := hid (show Below w.heap.size w Y3 from by rw [← hY3]; exact setRow_below (btr HBC.out D2.out) (by have := HR.out; omega))
  rw [hY3]
  clear hY3 hrow
  refine hK.out _ _ ?_ (fun hHeld => ?_)
  · (try dsimp only); exact ⟨row_cell (KY.out.row (row_on HRA.out D2.out) (fun e => by omega)) 0, row_cell (KY.out.row (row_on HRA.out D2.out) (fun e => by omega)) 1, row_cell (KY.out.row (row_on HRB.out D2.out) (fun e => by omega)) 0, row_cell (KY.out.row (row_on HRB.out D2.out) (fun e => by omega)) 1⟩
  clear hK K
  try simp only [List.getElem_toArray, List.getElem_cons_succ, List.getElem_cons_zero, Act.put, List.setIfInBounds_toArray, List.set_cons_zero, List.set_cons_succ]
  refine wpAnyH_done (by kernel_rfl) ?_ _
  go_wp2
  refine bodyPost_ret (results_cell_row (fn := Try.f33) Try.results33 _ _ (R + 1 + 1) 36 #[.int .u64 (hiW v), .int .u64 (loW v)] (0, 0) _ (by rfl) GY.out Try.underlying36 rfl infoM) rfl ⟨rfl, BY3.out⟩
end Go.Proofs.Ytdbnkidfclgnfaa.Ac
