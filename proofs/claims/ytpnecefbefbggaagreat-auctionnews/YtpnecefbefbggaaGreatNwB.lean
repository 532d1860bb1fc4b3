/-
  The document's uncross of nothing; both calls made; what is listed of nothing.
-/
import Derived.Test.YtpnecefbefbggaaGreatNwA
import Derived.LaidEqlPtr
namespace Go.Proofs.YtpnecefbefbggaaGreat
open Go.RowKit Go.Deep Go.Sort
set_option linter.unusedVariables false
set_option linter.unusedSimpArgs false
set_option maxHeartbeats 4000000
set_option maxRecDepth 100000
attribute [local go_sem ↓] Go.wp_at_zero Go.wp_at_succ
theorem step_store_row {P : Program} {w : World} {ops : Array Oper} {o : Oper} {a : Act} {K : Act → World → Prop} {Q : Exit → Act → World → Prop} {E : Prop} (hgd : o.guard = none) (ty : TypeId) (x y : Operand) (ho : o.op = .store ty x y)
    (g : Nat) (cells : Array Value) (hx : a.eval x = .pointer (some ⟨g, 0, none⟩)) (hy : a.eval y = .agg cells)
    (t : TypeId) (old : Array Value) (hg : w.heap[g]? = some (.cells old t (0, 0))) (hi : (P.info? ty).map (·.size) = some cells.size)
    (hold : old.size = cells.size) (h1 : cells.all (·.oneCell') = true)
    (h : K (a.put o.dst undef) (w.setRow g cells)) : if Region.wanted o (yielded ops a.tmps) = true then Oper.wp P o a w K Q else E := by
  have hw : Region.wanted o (yielded ops a.tmps) = true := by simp [Region.wanted, hgd]
  rw [if_pos hw]
  exact wp_store_row ty x y ho g cells hx hy t old hg hi hold h1 h
theorem res_ctct {P : Program} {fn : Func} {p q p2 q2 : Tmp} {ty ty2 : TypeId} (h : fn.results = #[.cell p ty, .tmp q, .cell p2 ty2, .tmp q2]) (tmps : Array Value) (w : World) (g g2 : Nat) (t t2 : TypeId) (cs cs2 : Array Value) (fr fr2 : Nat × Nat) (d d2 : TypeDesc) (v v2 : Value)
    (hp : tmps.getD p undef = .pointer (some ⟨g, 0, none⟩)) (hq : tmps.getD q undef = v) (hp2 : tmps.getD p2 undef = .pointer (some ⟨g2, 0, none⟩)) (hq2 : tmps.getD q2 undef = v2) (hg : w.heap[g]? = some (.cells cs t fr)) (hg2 : w.heap[g2]? = some (.cells cs2 t2 fr2))
    (hu : P.underlying ty = some d) (hd : (match d with | .struct _ | .array _ _ => true | _ => false) = true) (hi : (P.info? ty).map (·.size) = some cs.size)
    (hu2 : P.underlying ty2 = some d2) (hd2 : (match d2 with | .struct _ | .array _ _ => true | _ => false) = true) (hi2 : (P.info? ty2).map (·.size) = some cs2.size) :
    (results fn tmps).run P w = .ok (.tuple #[.agg cs, v, .agg cs2, v2]) w := by
  have hp' : tmps[p]?.getD undef = .pointer (some ⟨g, 0, none⟩) := by simpa using hp
  have hp2' : tmps[p2]?.getD undef = .pointer (some ⟨g2, 0, none⟩) := by simpa using hp2
  have hq' : tmps[q]?.getD undef = v := by simpa using hq
  have hq2' : tmps[q2]?.getD undef = v2 := by simpa using hq2
  simp [results, h, hp', hp2', hq', hq2', asAddr, run_loadVar_row w g t ty cs fr d hg hu hd hi, run_loadVar_row w g2 t2 ty2 cs2 fr2 d2 hg2 hu2 hd2 hi2]
theorem runcross_nil (r m : Int) (w : World) : Calls Tryz.prog 21 #[.agg #[.int .i64 r, .int .i64 m, .slice none 0 0]] w fun e w' => e = .returned (.tuple #[.agg #[.int .i64 r, .int .i64 m, .slice none 0 0], .slice none 0 0, .agg #[.int .i64 0, .int .u64 0, .int .u64 0, .int .i64 0, .int .i64 0], .bool false]) ∧ Below w.heap.size w w' := by
  obtain ⟨R, hR⟩ : ∃ R, w.heap.size = R := ⟨_, rfl⟩
  have HRR := hid hR
  obtain ⟨U1, hU1⟩ : ∃ U, w.alloc (.cells #[.int .i64 r, .int .i64 m, .slice none 0 0] 28) = U := ⟨_, rfl⟩
  obtain ⟨U2, hU2⟩ : ∃ U, U1.alloc (.cells #[.int .i64 0, .int .i64 0, .slice none 0 0] 28) = U := ⟨_, rfl⟩
  obtain ⟨W, hW⟩ : ∃ U, U2.alloc (.cells #[.int .i64 0, .int .u64 0, .int .u64 0, .int .i64 0, .int .i64 0] 58) = U := ⟨_, rfl⟩
  have s1 : U1.heap.size = R + 1 := by rw [← hU1, ← hR]; simp
  have s2 : U2.heap.size = R + 2 := by rw [← hU2]; simp [s1]
  have b1 : Below w.heap.size w U1 := by rw [← hU1]; exact ball _ _
  have b2 : Below U1.heap.size U1 U2 := by rw [← hU2]; exact ball _ _
  have b3 : Below U2.heap.size U2 W := by rw [← hW]; exact ball _ _
  have HBW := hid (btr (btr b1 b2) b3)
  have hK : W.heap[R]? = some (.cells #[.int .i64 r, .int .i64 m, .slice none 0 0] 28 (0, 0)) := row_on (row_on (by rw [← hU1, ← hR]; exact World.alloc_heap_new _ _) b2) b3
  have HK1 := hid (show W.heap[R + 1]? = some (.cells #[.int .i64 0, .int .i64 0, .slice none 0 0] 28 (0, 0)) from row_on (by rw [← hU2, ← s1]; exact World.alloc_heap_new _ _) b3)
  have HZ := hid (show W.heap[R + 2]? = some (.cells #[.int .i64 0, .int .u64 0, .int .u64 0, .int .i64 0, .int .i64 0] 58 (0, 0)) from by rw [← hW, ← s2]; exact World.alloc_heap_new _ _)
  have HK := hid hK
  have k0 := row_cell hK 0
  have k1 := row_cell hK 1
  have k2 := row_cell hK 2
  simp only [List.getElem?_toArray, List.getElem?_cons_succ, List.getElem?_cons_zero] at k0 k1 k2
  have H1 := hid hU1
  have H2 := hid hU2
  have HW := hid hW
  have CC := hid (rquote_nil r m W)
  clear hW hU1 hU2 hR hK s1 s2 b1 b2 b3
  go_enter Tryz.func21, Tryz.ntmps21
  go_upto_region 1 with fail
  rw [H1.out, H2.out, HW.out, HRR.out]
  go_upto_region 3 with (go_at_call 19; with_reducible refine (CC.out).mono ?_; rintro e v1 ⟨rfl, hb⟩; have V1 := hid hb; clear hb)
  clear k0 k1 k2
  obtain ⟨X, hX⟩ : ∃ X, v1.alloc (.cells #[.int .i64 0, .int .u64 0, .int .u64 0, .int .i64 0, .int .i64 0] 58) = X := ⟨_, rfl⟩
  obtain ⟨g, hg⟩ : ∃ g, v1.heap.size = g := ⟨_, rfl⟩
  have BX := hid (show Below v1.heap.size v1 X from by rw [← hX]; exact ball _ _)
  have hXg : X.heap[g]? = some (.cells #[.int .i64 0, .int .u64 0, .int .u64 0, .int .i64 0, .int .i64 0] 58 (0, 0)) := by rw [← hX, ← hg]; exact World.alloc_heap_new _ _
  rw [hX, hg]
  have hKX := row_on (row_on HK.out V1.out) BX.out
  have HK1X := hid (row_on (row_on HK1.out V1.out) BX.out)
  have HZX := hid (row_on (row_on HZ.out V1.out) BX.out)
  have k0 := row_cell hKX 0
  have k1 := row_cell hKX 1
  have k2 := row_cell hKX 2
  simp only [List.getElem?_toArray, List.getElem?_cons_succ, List.getElem?_cons_zero] at k0 k1 k2
  obtain ⟨z0, z1, z2, z3, z4⟩ := row5 hXg
  have HBX := hid (btr HBW.out (btr V1.out BX.out))
  have HKX' := hid hKX
  have HXG := hid hXg
  have HGR := hid (show R + 2 < g from by have := row_lt (row_on HZ.out V1.out); rw [← hg]; exact this)
  have AI := hid (show (Tryz.prog.info? 28).map (·.size) = some (#[.int .i64 r, .int .i64 m, .slice none 0 0] : Array Value).size from infoR)
  have AS := hid (show (#[.int .i64 0, .int .i64 0, .slice none 0 0] : Array Value).size = (#[.int .i64 r, .int .i64 m, .slice none 0 0] : Array Value).size from rfl)
  have AA := hid (show (#[.int .i64 r, .int .i64 m, .slice none 0 0] : Array Value).all (·.oneCell') = true from by simp [Value.oneCell'])
  have AI2 := hid (show (Tryz.prog.info? 58).map (·.size) = some (#[.int .i64 0, .int .u64 0, .int .u64 0, .int .i64 0, .int .i64 0] : Array Value).size from infoQ)
  have AS2 := hid (show (#[.int .i64 0, .int .u64 0, .int .u64 0, .int .i64 0, .int .i64 0] : Array Value).size = (#[.int .i64 0, .int .u64 0, .int .u64 0, .int .i64 0, .int .i64 0] : Array Value).size from rfl)
  have AA2 := hid (show (#[.int .i64 0, .int .u64 0, .int .u64 0, .int .i64 0, .int .i64 0] : Array Value).all (·.oneCell') = true from by simp [Value.oneCell'])
  clear hX hg hXg hKX
  obtain ⟨X0, hX0⟩ : ∃ U, X.drew = U := ⟨_, rfl⟩
  have BX0 := hid (show Below X.heap.size X X0 from by rw [← hX0]; exact bdrew1 _)
  have HS := hid (show ∀ U : World, U.heap[R]? = X.heap[R]? → U.heap[g]? = X.heap[g]? → U.cell? ⟨R, 0, none⟩ = some (.int .i64 r) ∧ U.cell? ⟨R, 1, none⟩ = some (.int .i64 m) ∧ U.cell? ⟨R, 2, none⟩ = some (.slice none 0 0) ∧ U.cell? ⟨g, 0, none⟩ = some (.int .i64 0) ∧ U.cell? ⟨g, 1, none⟩ = some (.int .u64 0) ∧ U.cell? ⟨g, 2, none⟩ = some (.int .u64 0) ∧ U.cell? ⟨g, 3, none⟩ = some (.int .i64 0) ∧ U.cell? ⟨g, 4, none⟩ = some (.int .i64 0) from fun U e1 e2 => by
    have r1 := e1.trans HKX'.out
    obtain ⟨y0, y1, y2, y3, y4⟩ := row5 (e2.trans HXG.out)
    exact ⟨row_cell r1 0, row_cell r1 1, row_cell r1 2, y0, y1, y2, y3, y4⟩)
  have hgR := HGR.out
  have HK1X := hid (row_on HK1X.out BX0.out)
  have HZX := hid (row_on HZX.out BX0.out)
  refine wp_region_held_drew (S := (fun U => U.cell? ⟨R, 0, none⟩ = some (.int .i64 r) ∧ U.cell? ⟨R, 1, none⟩ = some (.int .i64 m) ∧ U.cell? ⟨R, 2, none⟩ = some (.slice none 0 0) ∧ U.cell? ⟨g, 0, none⟩ = some (.int .i64 0) ∧ U.cell? ⟨g, 1, none⟩ = some (.int .u64 0) ∧ U.cell? ⟨g, 2, none⟩ = some (.int .u64 0) ∧ U.cell? ⟨g, 3, none⟩ = some (.int .i64 0) ∧ U.cell? ⟨g, 4, none⟩ = some (.int .i64 0))) (by kernel_rfl) ?_ (fun hHeld => ?_)
  · (try dsimp only); rw [hX0]; exact HS.out X0 (BX0.out.block R (row_lt HKX'.out)) (BX0.out.block g (row_lt HXG.out))
  rw [hX0] at hHeld ⊢
  clear k0 k1 k2 z0 z1 z2 z3 z4
  refine' wpAnyH_take (i := 0) (oi := _) (v := _) rfl (by kernel_rfl) (by kernel_rfl) (by kernel_rfl) (fun _ _ _ h => h) (Or.inl ⟨by kernel_rfl, ?_⟩) (by assumption) ?_
  rotate_left
  · (intro w hSw; (try dsimp only at hSw); go_simp; try (with_reducible rfl))
  try simp only [List.getElem_toArray, List.getElem_cons_succ, List.getElem_cons_zero, Act.put, List.setIfInBounds_toArray, List.set_cons_zero, List.set_cons_succ]
  refine' wpAnyH_take (i := 1) (oi := _) (v := _) rfl (by kernel_rfl) (by kernel_rfl) (by kernel_rfl) (fun _ _ _ h => h) (Or.inl ⟨by kernel_rfl, ?_⟩) (by assumption) ?_
  rotate_left
  · (intro w hSw; (try dsimp only at hSw); go_simp; try (with_reducible rfl))
  try simp only [List.getElem_toArray, List.getElem_cons_succ, List.getElem_cons_zero, Act.put, List.setIfInBounds_toArray, List.set_cons_zero, List.set_cons_succ]
  refine wpAnyH_ready (rs := [2]) (by kernel_rfl) (by simp) ?_
  refine AllReadyH.cons (o := _) rfl (fun KK hK => ?_) AllReadyH.nil
  refine step_store_row (by rfl) 28 (.tmp 2) (.tmp 20) (by rfl) (R + 1) #[.int .i64 r, .int .i64 m, .slice none 0 0] (by rfl) (by rfl) 28 _ HK1X.out AI.out AS.out AA.out ?_
  obtain ⟨Y, hY⟩ : ∃ Y, X0.setRow (R + 1) #[.int .i64 r, .int .i64 m, .slice none 0 0] = Y := ⟨_, rfl⟩
  have KY := hid (show Kp (fun j => j = R + 1) X0 Y from by rw [← hY]; exact setRow_kp _ _ _)
  have HKY := hid (show Y.heap[R + 1]? = some (.cells #[.int .i64 r, .int .i64 m, .slice none 0 0] 28 (0, 0)) from by rw [← hY]; exact setRow_heap X0 (R + 1) _ _ 28 (0, 0) HK1X.out)
  have HZY := hid (KY.out.row HZX.out (by omega))
  have HBY := hid (show Below w.heap.size w Y from by rw [← hY]; exact setRow_below (btr HBX.out BX0.out) (by have := HRR.out; omega))
  have eR := hid (show Y.heap[R]? = X.heap[R]? from (KY.out.obj R (Nat.lt_of_lt_of_le (row_lt HKX'.out) BX0.out.size) (by omega)).trans (BX0.out.block R (row_lt HKX'.out)))
  have eG := hid (show Y.heap[g]? = X.heap[g]? from (KY.out.obj g (Nat.lt_of_lt_of_le (row_lt HXG.out) BX0.out.size) (by omega)).trans (BX0.out.block g (row_lt HXG.out)))
  rw [hY]
  refine hK.out _ _ ?_ (fun hHeld => ?_)
  · (try dsimp only); exact HS.out Y eR.out eG.out
  clear hK hY
  try simp only [List.getElem_toArray, List.getElem_cons_succ, List.getElem_cons_zero, Act.put, List.setIfInBounds_toArray, List.set_cons_zero, List.set_cons_succ]
  refine' wpAnyH_take (i := 3) (oi := _) (v := _) rfl (by kernel_rfl) (by kernel_rfl) (by kernel_rfl) (fun _ _ _ h => h) (Or.inl ⟨by kernel_rfl, ?_⟩) (by assumption) ?_
  rotate_left
  · (intro w hSw; (try dsimp only at hSw); go_simp; try (with_reducible rfl))
  try simp only [List.getElem_toArray, List.getElem_cons_succ, List.getElem_cons_zero, Act.put, List.setIfInBounds_toArray, List.set_cons_zero, List.set_cons_succ]
  refine wpAnyH_ready (rs := [4]) (by kernel_rfl) (by simp) ?_
  refine AllReadyH.cons (o := _) rfl (fun KK hK => ?_) AllReadyH.nil
  refine step_store_row (by rfl) 58 (.tmp 4) (.tmp 21) (by rfl) (R + 2) #[.int .i64 0, .int .u64 0, .int .u64 0, .int .i64 0, .int .i64 0] (by rfl) (by rfl) 58 _ HZY.out AI2.out AS2.out AA2.out ?_
  refine hK.out _ _ ?_ (fun hHeld => ?_)
  · (try dsimp only); exact HS.out _ ((setRow_other Y (R + 2) R _ (by omega)).trans eR.out) ((setRow_other Y (R + 2) g _ (by omega)).trans eG.out)
  clear hK
  try simp only [List.getElem_toArray, List.getElem_cons_succ, List.getElem_cons_zero, Act.put, List.setIfInBounds_toArray, List.set_cons_zero, List.set_cons_succ]
  refine' wpAnyH_take (i := 5) (oi := _) (v := _) rfl (by kernel_rfl) (by kernel_rfl) (by kernel_rfl) (fun _ _ _ h => h) (Or.inl ⟨by kernel_rfl, ?_⟩) (by assumption) ?_
  rotate_left
  · (intro w hSw; (try dsimp only at hSw); go_simp; try (with_reducible rfl))
  try simp only [List.getElem_toArray, List.getElem_cons_succ, List.getElem_cons_zero, Act.put, List.setIfInBounds_toArray, List.set_cons_zero, List.set_cons_succ]
  refine wpAnyH_done (by kernel_rfl) ?_ _
  clear hHeld
  go_wp2
  refine bodyPost_ret (res_ctct (fn := Tryz.f21) Tryz.results21 _ _ (R + 1) (R + 2) 28 58 #[.int .i64 r, .int .i64 m, .slice none 0 0] #[.int .i64 0, .int .u64 0, .int .u64 0, .int .i64 0, .int .i64 0] (0, 0) (0, 0) _ _ (.slice none 0 0) (.bool false) (by rfl) (by rfl) (by rfl) (by rfl) ((setRow_other Y (R + 2) (R + 1) _ (by omega)).trans HKY.out) (setRow_heap _ _ _ _ 58 (0, 0) HZY.out) Tryz.underlying28 rfl infoR Tryz.underlying58 rfl infoQ) rfl ⟨rfl, ?_⟩
  exact setRow_below HBY.out (by have := HRR.out; omega)
/-- both calls of nothing lie in a pair. -/
structure Pn (w0 w : World) (X B : Nat) (r m : Int) : Prop where
  row : w.heap[X]? = some (.cells #[.pointer (some ⟨B, 0, none⟩), .int .i64 r, .int .i64 m, .slice none 0 0] 30 (0, 0))
  cl : Cl w B r m none 0 [] none 0 []
  be : Below w0.heap.size w0 w
  ge : w0.heap.size ≤ X
theorem Pn.on {w0 w w' : World} {X B : Nat} {r m : Int} (h : Pn w0 w X B r m) (hb : Below w.heap.size w w') : Pn w0 w' X B r m := ⟨row_on h.row hb, h.cl.on hb, btr h.be hb, h.ge⟩
theorem made_bad (r m : Int) (w : World) (h : nwk r m = false) : Calls Tryz.prog 6 #[.int .i64 r, .int .i64 m] w fun e w' => ∃ X, e = .returned (.tuple #[.pointer (some ⟨X, 0, none⟩), .bool true]) ∧ w'.cell? ⟨X, 0, none⟩ = some (.pointer none) ∧ Below w.heap.size w w' := by
  have C1 := hid (new_bad r m w h)
  have C2 := hid (rnew_bad r m w h)
  clear h
  go_enter Tryz.func6, Tryz.ntmps6
  go_wp2_with (first | (go_at_call 9; with_reducible refine (C1.out).mono ?_; rintro e w1 ⟨rfl, rfl⟩) | (go_at_call 10; with_reducible refine (C2.out).mono ?_; rintro e w2 ⟨rfl, hb⟩; have V2 := hid hb; clear hb))
  go_ret2
  refine ⟨w2.heap.size + 1, rfl, ?_, btr V2.out (btr (ball _ _) (ball _ _))⟩
  have := World.alloc_heap_new (w2.alloc (.cells #[.int .i64 0, .int .i64 0, .slice none 0 0] 28)) (.cells #[.pointer none, .int .i64 0, .int .i64 0, .slice none 0 0] 30)
  have e : (w2.alloc (.cells #[.int .i64 0, .int .i64 0, .slice none 0 0] 28)).heap.size = w2.heap.size + 1 := by simp
  rw [e] at this
  exact row_cell this 0
theorem made_ok (r m : Int) (w : World) (h : nwk r m = true) : Calls Tryz.prog 6 #[.int .i64 r, .int .i64 m] w fun e w' => ∃ X B, e = .returned (.tuple #[.pointer (some ⟨X, 0, none⟩), .bool true]) ∧ Pn w w' X B r m := by
  have C1 := hid ((new_ok r m w h).mono (R' := fun e w' => e = .returned (.tuple #[.pointer (some ⟨w.heap.size, 0, none⟩), .int .i64 0]) ∧ Hid (w' = w.alloc (.cells #[.int .i64 r, .int .i64 m, .slice none 0 0, .slice none 0 0] 75))) (fun e w' h => ⟨h.1, hid h.2⟩))
  have C2 := hid (fun U => rnew_ok r m U h)
  have HC := hid (Cl.new w h)
  have pq : ∀ U, (binOp .eql 25 (.pointer (some ⟨w.heap.size, 0, none⟩)) (.pointer none)).run Tryz.prog U = .ok (.bool false) U := fun U => by first | exact run_eql_ptr_nil U 25 _ _ Tryz.underlying25 | kernel_rfl | rfl | simp [binOp, Op.equal, Op.equalIn, run_underlying Tryz.underlying25]
  clear h
  go_enter Tryz.func6, Tryz.ntmps6
  go_wp2_with (first | (go_at_call 9; with_reducible refine (C1.out).mono ?_; rintro e w1 ⟨rfl, HW1⟩) | (go_at_call 10; with_reducible refine (C2.out _).mono ?_; rintro e w2 ⟨rfl, hb⟩; have V2 := hid hb; clear hb))
  go_ret2
  have hc := HC.out
  rw [← HW1.out] at hc
  have hb1 : Below w.heap.size w w1 := by rw [HW1.out]; exact ball _ _
  have hb3 := btr (ball w2 (.cells #[.int .i64 r, .int .i64 m, .slice none 0 0] 28)) (ball (w2.alloc (.cells #[.int .i64 r, .int .i64 m, .slice none 0 0] 28)) (.cells #[.pointer (some ⟨w.heap.size, 0, none⟩), .int .i64 r, .int .i64 m, .slice none 0 0] 30))
  refine ⟨w2.heap.size + 1, w.heap.size, rfl, ⟨?_, hc.on (btr V2.out hb3), btr hb1 (btr V2.out hb3), ?_⟩⟩
  · have := World.alloc_heap_new (w2.alloc (.cells #[.int .i64 r, .int .i64 m, .slice none 0 0] 28)) (.cells #[.pointer (some ⟨w.heap.size, 0, none⟩), .int .i64 r, .int .i64 m, .slice none 0 0] 30)
    have e : (w2.alloc (.cells #[.int .i64 r, .int .i64 m, .slice none 0 0] 28)).heap.size = w2.heap.size + 1 := by simp
    rw [e] at this
    exact this
  · have := hb1.size
    have := V2.out.size
    omega
end Go.Proofs.YtpnecefbefbggaaGreat
