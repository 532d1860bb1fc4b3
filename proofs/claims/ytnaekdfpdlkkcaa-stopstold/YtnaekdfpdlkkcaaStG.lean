/-
  A stop order is placed.
-/
import Derived.Test.YtnaekdfpdlkkcaaStF
namespace Go.Proofs.Ytnaekdfpdlkkcaa
open Go.RowKit Go.Deep Go.Shelf
set_option linter.unusedVariables false
set_option linter.unusedSimpArgs false
set_option maxHeartbeats 4000000
set_option maxRecDepth 100000
attribute [local go_sem ↓] Go.wp_at_zero Go.wp_at_succ
section
variable {P : Program}
theorem grown_refl (w : World) (r : Option Nat) : w.grownBy w r := ⟨rfl, rfl, rfl, Nat.le_refl _, fun _ _ _ => rfl⟩
/-- rows behind rows, whatever they are. -/
theorem wp_app_rows {w : World} {o : Oper} {a : Act} {K : Act → World → Prop} {Q : Exit → Act → World → Prop} (s x : Operand) (t : TypeId)
    (ho : o.op = .call { callee := .builtin .append, args := #[s, x], argTypes := #[t, t] })
    (base base2 : Nat) (e : TypeId) (i : TypeInfo) (z : Value) (size bytes : Nat) (ht : P.underlying t = some (.slice e)) (hi : P.info? e = some i) (hz : i.zero = some z)
    (hsize : i.size = size) (hby : i.bytes = bytes) (hzs : z.cells.size = size) (hsz : 0 < size)
    (v : Value) (n : Nat) (xs : List Value) (hs : a.eval s = v) (hown : w.ownsRow base e size v n xs)
    (v2 : Value) (m : Nat) (ys : List Value) (hx : a.eval x = v2) (hown2 : w.ownsRow base2 e size v2 m ys) (h1 : ∀ u ∈ ys, u.oneCell' = true)
    (h63 : n + m ≤ maxLen) (hbytes : (n + m) * bytes ≤ 140737488355328) (hbase : base ≤ w.heap.size)
    (h : ∀ v' w', w'.ownsRow base e size v' (n + m) (xs ++ ys) → w.grownBy w' v.ownBlock → K (a.put o.dst v') w') : Oper.wp P o a w K Q := by
  obtain ⟨g1, ⟨rfl, rfl⟩ | ⟨g, cap, cur, rfl, r1, r2, r3, r4, r5, r6⟩⟩ := hown2
  · obtain rfl : ys = [] := List.length_eq_zero_iff.1 (by simpa using g1)
    have hrun := run_append_owned_none (P := P) (w := w) base t o.type e i size ht hi v n xs hown
    unfold Oper.wp
    simp [execOp, ho, resolve, invoke, builtin, hs, hx, hrun, Result.andThen]
    exact h v w (by simpa using hown) (grown_refl _ _)
  · refine wp_append_own w s x t ho base e i z size bytes ht hi hz hsize hby hzs hsz v n xs hs hown ⟨g, 0, none⟩ m cap ys hx g1 (fun j u hj => ?_) h1 h63 hbytes hbase (fun v' w' h2 h3 _ => h v' w' h2 h3)
    rw [Addr.add_lit, Nat.zero_add, row_cell r2]
    have := congrArg (fun z => z[j]?) r6
    have hlt : j < m * size := by rw [← g1]; exact (List.getElem?_eq_some_iff.1 hj).1
    simp only [List.getElem?_take, hlt, if_true, Array.getElem?_toList] at this
    rw [this, hj]
theorem wpList_app_rows {w : World} {ops : Array Oper} {rest : List Oper} {o : Oper} {a : Act} {Q : Exit → Act → World → Prop} (hgd : o.guard = none) (s x : Operand) (t : TypeId)
    (ho : o.op = .call { callee := .builtin .append, args := #[s, x], argTypes := #[t, t] })
    (base base2 : Nat) (e : TypeId) (i : TypeInfo) (z : Value) (size bytes : Nat) (ht : P.underlying t = some (.slice e)) (hi : P.info? e = some i) (hz : i.zero = some z)
    (hsize : i.size = size) (hby : i.bytes = bytes) (hzs : z.cells.size = size) (hsz : 0 < size)
    (v : Value) (n : Nat) (xs : List Value) (hs : a.eval s = v) (hown : w.ownsRow base e size v n xs)
    (v2 : Value) (m : Nat) (ys : List Value) (hx : a.eval x = v2) (hown2 : w.ownsRow base2 e size v2 m ys) (h1 : ∀ u ∈ ys, u.oneCell' = true)
    (h63 : n + m ≤ maxLen) (hbytes : (n + m) * bytes ≤ 140737488355328) (hbase : base ≤ w.heap.size)
    (h : ∀ v' w', w'.ownsRow base e size v' (n + m) (xs ++ ys) → w.grownBy w' v.ownBlock → wpList P ops Q rest (a.put o.dst v') w') : wpList P ops Q (o :: rest) a w :=
  wpList_plain hgd fun _ hK => wp_app_rows s x t ho base base2 e i z size bytes ht hi hz hsize hby hzs hsz v n xs hs hown v2 m ys hx hown2 h1 h63 hbytes hbase fun v' w' h2 h3 => hK _ _ (h v' w' h2 h3)
theorem step_app_rows {w : World} {ops : Array Oper} {o : Oper} {a : Act} {K : Act → World → Prop} {Q : Exit → Act → World → Prop} {E : Prop} (hgd : o.guard = none) (s x : Operand) (t : TypeId)
    (ho : o.op = .call { callee := .builtin .append, args := #[s, x], argTypes := #[t, t] })
    (base base2 : Nat) (e : TypeId) (i : TypeInfo) (z : Value) (size bytes : Nat) (ht : P.underlying t = some (.slice e)) (hi : P.info? e = some i) (hz : i.zero = some z)
    (hsize : i.size = size) (hby : i.bytes = bytes) (hzs : z.cells.size = size) (hsz : 0 < size)
    (v : Value) (n : Nat) (xs : List Value) (hs : a.eval s = v) (hown : w.ownsRow base e size v n xs)
    (v2 : Value) (m : Nat) (ys : List Value) (hx : a.eval x = v2) (hown2 : w.ownsRow base2 e size v2 m ys) (h1 : ∀ u ∈ ys, u.oneCell' = true)
    (h63 : n + m ≤ maxLen) (hbytes : (n + m) * bytes ≤ 140737488355328) (hbase : base ≤ w.heap.size)
    (h : ∀ v' w', w'.ownsRow base e size v' (n + m) (xs ++ ys) → w.grownBy w' v.ownBlock → K (a.put o.dst v') w') :
    if Region.wanted o (yielded ops a.tmps) = true then Oper.wp P o a w K Q else E := by
  have hw : Region.wanted o (yielded ops a.tmps) = true := by simp [Region.wanted, hgd]
  rw [if_pos hw]
  exact wp_app_rows s x t ho base base2 e i z size bytes ht hi hz hsize hby hzs hsz v n xs hs hown v2 m ys hx hown2 h1 h63 hbytes hbase h
end
theorem wtell (K : Nat) (fv : Value) (p : Option Addr) (n c : Nat) (high seq : Int) (E : Nat) (e : Ev) (w : World) (hK : w.heap[K]? = some (.cells #[fv, .int .i64 1, .slice p n c, .int .u64 high, .int .u64 seq, .int .i64 0, .bool false] 54 (0, 0))) (hE : w.heap[E]? = some (.cells (ecs e) 38 (0, 0))) :
    Calls Try.prog 13 #[.pointer (some ⟨K, 0, none⟩), .slice none 0 0, .slice (some ⟨E, 0, none⟩) 1 1] w fun r w' => ∃ g cap, r = .returned (.slice (some ⟨g, 0, none⟩) 1 cap) ∧ Hid (w.heap.size ≤ g) ∧ Hid (Es w' g { e with sq := nx seq }) ∧ Hid (w'.heap[K]? = some (.cells #[fv, .int .i64 1, .slice p n c, .int .u64 high, .int .u64 (nx seq), .int .i64 0, .bool false] 54 (0, 0))) ∧ Hid (Kp (fun j => j = K) w w') := by
  refine (tell_any K fv p n c high seq E e w hK hE).mono ?_
  rintro r w' ⟨g, cap, rfl, h1, h2, h3, h4⟩
  exact ⟨g, cap, rfl, hid h1, hid h2, hid h3, hid h4⟩
theorem place_ref (K : Nat) (fv : Value) (p : Option Addr) (n c : Nat) (high seq y : Int) (x : Sp) (w : World) (hx : SpOk x) (hK : w.heap[K]? = some (.cells #[fv, .int .i64 1, .slice p n c, .int .u64 high, .int .u64 seq, .int .i64 0, .bool false] 54 (0, 0))) (hy : rfS x high n = y) (hn : y ≠ 0) :
    Calls Try.prog 6 #[.pointer (some ⟨K, 0, none⟩), .agg #[.int .u64 x.nm, .int .u32 x.mb, .int .i64 x.sd, .int .i64 x.ty, .int .i64 x.tr, .int .i64 x.pr, .int .u64 x.qt, .int .u64 x.pk]] w fun r w' => ∃ g cap, r = .returned (.slice (some ⟨g, 0, none⟩) 1 cap) ∧ Hid (w.heap.size ≤ g) ∧ Hid (Es w' g (⟨nx seq, 2, x.nm, 0, 0, 0, 0, 0, 0, 0, 0, 0, y⟩ : Ev)) ∧ Hid (w'.heap[K]? = some (.cells #[fv, .int .i64 1, .slice p n c, .int .u64 high, .int .u64 (nx seq), .int .i64 0, .bool false] 54 (0, 0))) ∧ Hid (Kp (fun j => j = K) w w') := by
  have CR := hid (fun (U : World) (hU : Below w.heap.size w U) => refusal_any K fv p n c high seq x U hx (row_on hK hU))
  rw [hy] at CR
  have HK := hid hK
  have y0 : (y != 0) = true := by simpa using hn
  clear hy hn hx hK
  obtain ⟨R, hR⟩ : ∃ R, w.heap.size = R := ⟨_, rfl⟩
  obtain ⟨W, hW⟩ : ∃ U, w.alloc (.cells #[.int .u64 x.nm, .int .u32 x.mb, .int .i64 x.sd, .int .i64 x.ty, .int .i64 x.tr, .int .i64 x.pr, .int .u64 x.qt, .int .u64 x.pk] 27) = U := ⟨_, rfl⟩
  have b0 : Below w.heap.size w W := by rw [← hW]; exact ball _ _
  have HBW := hid b0
  have HR0 := hid (show W.heap[R]? = some (.cells #[.int .u64 x.nm, .int .u32 x.mb, .int .i64 x.sd, .int .i64 x.ty, .int .i64 x.tr, .int .i64 x.pr, .int .u64 x.qt, .int .u64 x.pk] 27 (0, 0)) from (by rw [← hW, ← hR]; exact World.alloc_heap_new _ _))
  have HW := hid hW
  have HRR := hid hR
  clear hR hW  b0
  have HCE := hid (fun (U : World) (hU : Below W.heap.size W U) => row8 (row_on HR0.out hU))
  go_enter Try.func6, Try.ntmps6
  go_upto_region 1 with fail
  rw [HW.out, HRR.out]
  obtain ⟨a0, a1, a2, a3, a4, a5, a6, a7⟩ := HCE.out W (Below.refl _ _)
  go_upto_region 3 with (go_at_call 12; with_reducible refine (CR.out _ HBW.out).mono ?_; rintro e w1 ⟨rfl, hb1⟩; have HB1 := hid hb1; clear hb1)
  clear a0 a1 a2 a3 a4 a5 a6 a7
  obtain ⟨a0, a1, a2, a3, a4, a5, a6, a7⟩ := HCE.out w1 HB1.out
  have hb2 := ball w1 (.cells #[.int .u64 0, .int .i64 2, .int .u64 x.nm, .int .u64 0, .int .u64 0, .int .u32 0, .int .i64 0, .int .i64 0, .int .i64 0, .int .u64 0, .int .u64 0, .int .i64 0, .int .i64 y] 38)
  have CT := hid (wtell K fv p n c high seq w1.heap.size ⟨0, 2, x.nm, 0, 0, 0, 0, 0, 0, 0, 0, 0, y⟩ (w1.alloc (.cells #[.int .u64 0, .int .i64 2, .int .u64 x.nm, .int .u64 0, .int .u64 0, .int .u32 0, .int .i64 0, .int .i64 0, .int .i64 0, .int .u64 0, .int .u64 0, .int .i64 0, .int .i64 y] 38)) (row_on HK.out (btr (btr HBW.out HB1.out) hb2)) (World.alloc_heap_new _ _))
  have HB2 := hid (btr (btr HBW.out HB1.out) hb2)
  clear hb2
  go_wp2_with (go_at_call 13; with_reducible refine (CT.out).mono ?_; rintro e w3 ⟨g, cap, rfl, h1, h2, h3, h4⟩)
  go_ret
  exact ⟨g, cap, rfl, hid (Nat.le_trans HB2.out.size h1.out), h2, h3, hid ((Kp.of _ HB2.out).trans h4.out (fun _ _ h => h))⟩
theorem place_new (K : Nat) (fv : Value) (high seq : Int) (x : Sp) (w : World) (hx : SpOk x) (hK : w.heap[K]? = some (.cells #[fv, .int .i64 1, .slice none 0 0, .int .u64 high, .int .u64 seq, .int .i64 0, .bool false] 54 (0, 0))) (hy : rfS x high 0 = 0) :
    Calls Try.prog 6 #[.pointer (some ⟨K, 0, none⟩), .agg #[.int .u64 x.nm, .int .u32 x.mb, .int .i64 x.sd, .int .i64 x.ty, .int .i64 x.tr, .int .i64 x.pr, .int .u64 x.qt, .int .u64 x.pk]] w fun r w' => ∃ g cap G gc, r = .returned (.slice (some ⟨g, 0, none⟩) 1 cap) ∧ Hid (w.heap.size ≤ g) ∧ Hid (Es w' g (⟨nx seq, 6, x.nm, 0, IntKind.u64.wrap x.tr, x.mb, x.sd, x.ty, x.pr, x.qt, x.pk, 0, 0⟩ : Ev)) ∧ Hid (w'.heap[K]? = some (.cells #[fv, .int .i64 1, .slice (some ⟨G, 0, none⟩) 1 gc, .int .u64 x.nm, .int .u64 (nx seq), .int .i64 0, .bool false] 54 (0, 0))) ∧ Hid (Lz w' G gc x) ∧ Hid (w.heap.size ≤ G) ∧ Hid (Kp (fun j => j = K) w w') := by
  obtain ⟨i0, hi, hz0, hz1, hz2⟩ := info_parts info27all
  have HI := hid hi
  have HZ0 := hid hz0
  have HZ1 := hid hz1
  have HZ2 := hid hz2
  have CR := hid (fun (U : World) (hU : Below w.heap.size w U) => refusal_any K fv none 0 0 high seq x U hx (row_on hK hU))
  rw [hy] at CR
  have HK := hid hK
  clear hy hx hK hi hz0 hz1 hz2
  obtain ⟨R, hR⟩ : ∃ R, w.heap.size = R := ⟨_, rfl⟩
  obtain ⟨W, hW⟩ : ∃ U, w.alloc (.cells #[.int .u64 x.nm, .int .u32 x.mb, .int .i64 x.sd, .int .i64 x.ty, .int .i64 x.tr, .int .i64 x.pr, .int .u64 x.qt, .int .u64 x.pk] 27) = U := ⟨_, rfl⟩
  have b0 : Below w.heap.size w W := by rw [← hW]; exact ball _ _
  have HBW := hid b0
  have HR0 := hid (show W.heap[R]? = some (.cells #[.int .u64 x.nm, .int .u32 x.mb, .int .i64 x.sd, .int .i64 x.ty, .int .i64 x.tr, .int .i64 x.pr, .int .u64 x.qt, .int .u64 x.pk] 27 (0, 0)) from (by rw [← hW, ← hR]; exact World.alloc_heap_new _ _))
  have HW := hid hW
  have HRR := hid hR
  clear hR hW  b0
  have HCE := hid (fun (U : World) (hU : Below W.heap.size W U) => row8 (row_on HR0.out hU))
  go_enter Try.func6, Try.ntmps6
  go_upto_region 1 with fail
  rw [HW.out, HRR.out]
  obtain ⟨a0, a1, a2, a3, a4, a5, a6, a7⟩ := HCE.out W (Below.refl _ _)
  go_upto_region 4 with (go_at_call 12; with_reducible refine (CR.out _ HBW.out).mono ?_; rintro e w1 ⟨rfl, hb1⟩; have HB1 := hid hb1; clear hb1)
  clear a0 a1 a2 a3 a4 a5 a6 a7
  obtain ⟨a0, a1, a2, a3, a4, a5, a6, a7⟩ := HCE.out w1 HB1.out
  have HK1 := hid (row_on HK.out (btr HBW.out HB1.out))
  have fz := row_frz HK1.out 3
  obtain ⟨k0, k1, k2, k3, k4, k5, k6⟩ := row7 HK1.out
  go_upto_region 5 with fail
  clear a0 a1 a2 a3 a4 a5 a6 a7 k0 k1 k2 k3 k4 k5 k6 fz
  have HK4 := hid (show (w1.setCell ⟨K, 3, none⟩ (.int .u64 x.nm)).heap[K]? = some (.cells #[fv, .int .i64 1, .slice none 0 0, .int .u64 x.nm, .int .u64 seq, .int .i64 0, .bool false] 54 (0, 0)) from set_row (k := 3) _ HK1.out)
  have HR4 := hid ((Kp.set w1 K 3 (.int .u64 x.nm)).row (row_on HR0.out HB1.out) (fun e => row_ne (row_on HR0.out HB1.out) HK1.out (by decide) e))
  have HP4 := hid ((Kp.of (fun j => j = K) (btr HBW.out HB1.out)).trans (Kp.set w1 K 3 (.int .u64 x.nm)) (fun _ _ h => h))
  obtain ⟨W4, hW4⟩ : ∃ X, w1.setCell ⟨K, 3, none⟩ (.int .u64 x.nm) = X := ⟨_, rfl⟩
  rw [hW4] at HK4 HR4 HP4 ⊢
  clear hW4
  obtain ⟨Y0, hY0⟩ : ∃ X, W4.drew = X := ⟨_, rfl⟩
  have HE0 := hid (show Below W4.heap.size W4 Y0 from by rw [← hY0]; exact bdrew1 _)
  have HRY := hid (row_on HR4.out HE0.out)
  have HKY := hid (row_on HK4.out HE0.out)
  have BE0 := hid (Below.refl Y0.heap.size Y0)
  refine wp_region_held_drew (S := (fun U => U.cell? ⟨R, 0, none⟩ = some (.int .u64 x.nm) ∧ U.cell? ⟨R, 1, none⟩ = some (.int .u32 x.mb) ∧ U.cell? ⟨R, 2, none⟩ = some (.int .i64 x.sd) ∧ U.cell? ⟨R, 3, none⟩ = some (.int .i64 x.ty) ∧ U.cell? ⟨R, 4, none⟩ = some (.int .i64 x.tr) ∧ U.cell? ⟨R, 5, none⟩ = some (.int .i64 x.pr) ∧ U.cell? ⟨R, 6, none⟩ = some (.int .u64 x.qt) ∧ U.cell? ⟨R, 7, none⟩ = some (.int .u64 x.pk))) (by kernel_rfl) ?_ (fun hHeld => ?_)
  · (try dsimp only); ((rw [hY0]; exact row8 HRY.out))
  rw [hY0] at hHeld ⊢
  clear hY0
  refine' wpAnyH_take (i := 0) (oi := _) (v := _) rfl (by kernel_rfl) (by kernel_rfl) (by kernel_rfl) (fun _ _ _ h => h) (Or.inl ⟨by kernel_rfl, ?_⟩) (by assumption) ?_
  rotate_left
  · (intro w hSw; (try dsimp only at hSw); go_simp; try (with_reducible rfl))
  try simp only [List.getElem_toArray, List.getElem_cons_succ, List.getElem_cons_zero, Act.put, List.setIfInBounds_toArray, List.set_cons_zero, List.set_cons_succ]
  refine' wpAnyH_take (i := 1) (oi := _) (v := _) rfl (by kernel_rfl) (by kernel_rfl) (by kernel_rfl) (fun _ _ _ h => h) (Or.inl ⟨by kernel_rfl, ?_⟩) (by assumption) ?_
  rotate_left
  · (intro w hSw; (try dsimp only at hSw); go_simp; try (with_reducible rfl))
  try simp only [List.getElem_toArray, List.getElem_cons_succ, List.getElem_cons_zero, Act.put, List.setIfInBounds_toArray, List.set_cons_zero, List.set_cons_succ]
  refine' wpAnyH_take (i := 2) (oi := _) (v := _) rfl (by kernel_rfl) (by kernel_rfl) (by kernel_rfl) (fun _ _ _ h => h) (Or.inl ⟨by kernel_rfl, ?_⟩) (by assumption) ?_
  rotate_left
  · (intro w hSw; (try dsimp only at hSw); go_simp; try (with_reducible rfl))
  try simp only [List.getElem_toArray, List.getElem_cons_succ, List.getElem_cons_zero, Act.put, List.setIfInBounds_toArray, List.set_cons_zero, List.set_cons_succ]
  refine' wpAnyH_take (i := 3) (oi := _) (v := _) rfl (by kernel_rfl) (by kernel_rfl) (by kernel_rfl) (fun _ _ _ h => h) (Or.inl ⟨by kernel_rfl, ?_⟩) (by assumption) ?_
  rotate_left
  · (intro w hSw; (try dsimp only at hSw); go_simp; try (with_reducible rfl))
  try simp only [List.getElem_toArray, List.getElem_cons_succ, List.getElem_cons_zero, Act.put, List.setIfInBounds_toArray, List.set_cons_zero, List.set_cons_succ]
  refine' wpAnyH_take (i := 4) (oi := _) (v := _) rfl (by kernel_rfl) (by kernel_rfl) (by kernel_rfl) (fun _ _ _ h => h) (Or.inl ⟨by kernel_rfl, ?_⟩) (by assumption) ?_
  rotate_left
  · (intro w hSw; (try dsimp only at hSw); go_simp; try (with_reducible rfl))
  try simp only [List.getElem_toArray, List.getElem_cons_succ, List.getElem_cons_zero, Act.put, List.setIfInBounds_toArray, List.set_cons_zero, List.set_cons_succ]
  refine' wpAnyH_take (i := 6) (oi := _) (v := _) rfl (by kernel_rfl) (by kernel_rfl) (by kernel_rfl) (fun _ _ _ h => h) (Or.inl ⟨by kernel_rfl, ?_⟩) (by assumption) ?_
  rotate_left
  · (intro w hSw; (try dsimp only at hSw); go_simp; try (with_reducible rfl))
  try simp only [List.getElem_toArray, List.getElem_cons_succ, List.getElem_cons_zero, Act.put, List.setIfInBounds_toArray, List.set_cons_zero, List.set_cons_succ]
  refine wpAnyH_ready (rs := [5, 7]) (by kernel_rfl) (by simp) ?_
  refine (AllReadyH.cons (o := _) rfl (fun KK hK => ?_) (AllReadyH.cons (o := _) rfl (fun KK hK => ?_) AllReadyH.nil))
  focus
    obtain ⟨k0, k1, k2, k3, k4, k5, k6⟩ := row7 (row_on HKY.out BE0.out)
    go_simp
    refine hK.out _ _ ?_ (fun hHeld => ?_)
    · (try dsimp only); exact row8 (row_on HRY.out (BE0.out))
    clear hK k0 k1 k2 k3 k4 k5 k6
    try simp only [List.getElem_toArray, List.getElem_cons_succ, List.getElem_cons_zero, Act.put, List.setIfInBounds_toArray, List.set_cons_zero, List.set_cons_succ]
    refine wpAnyH_ready (rs := [7]) (by kernel_rfl) (by simp) ?_
    refine AllReadyH.cons (o := _) rfl (fun KK hK => ?_) AllReadyH.nil
    go_simp
    refine hK.out _ _ ?_ (fun hHeld => ?_)
    · (try dsimp only); exact row8 (row_on HRY.out (btr BE0.out (ball _ _)))
    clear hK
    try simp only [List.getElem_toArray, List.getElem_cons_succ, List.getElem_cons_zero, Act.put, List.setIfInBounds_toArray, List.set_cons_zero, List.set_cons_succ]
    obtain ⟨X7, hX7⟩ : ∃ X, Y0.alloc (.cells #[.int .u64 x.nm, .int .u32 x.mb, .int .i64 x.sd, .int .i64 x.ty, .int .i64 x.tr, .int .i64 x.pr, .int .u64 x.qt, .int .u64 x.pk] 27) = X := ⟨_, rfl⟩
    have BX7 := hid (show Below Y0.heap.size Y0 X7 from by rw [← hX7]; exact btr BE0.out (ball _ _))
    have z7 := World.alloc_heap_new Y0 (.cells #[.int .u64 x.nm, .int .u32 x.mb, .int .i64 x.sd, .int .i64 x.ty, .int .i64 x.tr, .int .i64 x.pr, .int .u64 x.qt, .int .u64 x.pk] 27)
    have y7 := BE0.out.size
    obtain ⟨g7, hg7⟩ : ∃ g, Y0.heap.size = g := ⟨_, rfl⟩
    rw [hX7, hg7] at z7
    rw [hX7, hg7]
    have Z7 := hid z7
    clear hX7 hg7 z7 y7
  rotate_left
  focus
    go_simp
    refine hK.out _ _ ?_ (fun hHeld => ?_)
    · (try dsimp only); exact row8 (row_on HRY.out (btr BE0.out (ball _ _)))
    clear hK
    try simp only [List.getElem_toArray, List.getElem_cons_succ, List.getElem_cons_zero, Act.put, List.setIfInBounds_toArray, List.set_cons_zero, List.set_cons_succ]
    obtain ⟨X7, hX7⟩ : ∃ X, Y0.alloc (.cells #[.int .u64 x.nm, .int .u32 x.mb, .int .i64 x.sd, .int .i64 x.ty, .int .i64 x.tr, .int .i64 x.pr, .int .u64 x.qt, .int .u64 x.pk] 27) = X := ⟨_, rfl⟩
    have BX7 := hid (show Below Y0.heap.size Y0 X7 from by rw [← hX7]; exact btr BE0.out (ball _ _))
    have z7 := World.alloc_heap_new Y0 (.cells #[.int .u64 x.nm, .int .u32 x.mb, .int .i64 x.sd, .int .i64 x.ty, .int .i64 x.tr, .int .i64 x.pr, .int .u64 x.qt, .int .u64 x.pk] 27)
    have y7 := BE0.out.size
    obtain ⟨g7, hg7⟩ : ∃ g, Y0.heap.size = g := ⟨_, rfl⟩
    rw [hX7, hg7] at z7
    rw [hX7, hg7]
    have Z7 := hid z7
    clear hX7 hg7 z7 y7
    refine wpAnyH_ready (rs := [5]) (by kernel_rfl) (by simp) ?_
    refine AllReadyH.cons (o := _) rfl (fun KK hK => ?_) AllReadyH.nil
    obtain ⟨k0, k1, k2, k3, k4, k5, k6⟩ := row7 (row_on HKY.out BX7.out)
    go_simp
    refine hK.out _ _ ?_ (fun hHeld => ?_)
    · (try dsimp only); exact row8 (row_on HRY.out (BX7.out))
    clear hK k0 k1 k2 k3 k4 k5 k6
    try simp only [List.getElem_toArray, List.getElem_cons_succ, List.getElem_cons_zero, Act.put, List.setIfInBounds_toArray, List.set_cons_zero, List.set_cons_succ]
  rotate_left
  all_goals
    refine wpAnyH_ready (rs := [8]) (by kernel_rfl) (by simp) ?_
    refine AllReadyH.cons (o := _) rfl (fun KK hK => ?_) AllReadyH.nil
    refine step_app_rows (by rfl) (.tmp 29) (.tmp 31) 39 (by rfl) X7.heap.size 0 27 i0 _ 8 64 Try.underlying39 HI.out HZ0.out HZ1.out HZ2.out rfl (by decide) (.slice none 0 0) 0 [] (by rfl) ⟨rfl, .inl ⟨rfl, rfl⟩⟩ (.slice (some ⟨g7, 0, none⟩) 1 1) 1 (#[.int .u64 x.nm, .int .u32 x.mb, .int .i64 x.sd, .int .i64 x.ty, .int .i64 x.tr, .int .i64 x.pr, .int .u64 x.qt, .int .u64 x.pk] : Array Value).toList (by rfl) ⟨rfl, .inr ⟨g7, 1, #[.int .u64 x.nm, .int .u32 x.mb, .int .i64 x.sd, .int .i64 x.ty, .int .i64 x.tr, .int .i64 x.pr, .int .u64 x.qt, .int .u64 x.pk], rfl, Nat.zero_le _, Z7.out, Nat.le_refl _, by unfold maxLen; omega, rfl, rfl⟩⟩ (by simp [Value.oneCell']) (by unfold maxLen; omega) (by omega) (Nat.le_refl _) ?_
    intro v9 X8 hown hgrow
    obtain ⟨G, gc, cur, hv, hg, hr, hc1, hcm, hcs, hct⟩ := one_row hown
    subst hv
    have HLZ := hid (show Lz X8 G gc x from ⟨cur, hr, hc1, hcm, hcs, hct⟩)
    have HLS := hid HLZ.out.ls
    have HB8 := hid (show Below X7.heap.size X7 X8 from (Below.refl _ _).grown hgrow (Nat.le_refl _) (fun j hj => by cases hj))
    have HG := hid hg
    have hc1' := hc1
    clear hown hgrow hr hcs hct cur hg hc1
    refine hK.out _ _ ?_ (fun hHeld => ?_)
    · (try dsimp only); exact row8 (row_on HRY.out (btr BX7.out HB8.out))
    clear hK
    try simp only [List.getElem_toArray, List.getElem_cons_succ, List.getElem_cons_zero, Act.put, List.setIfInBounds_toArray, List.set_cons_zero, List.set_cons_succ]
    refine' wpAnyH_take (i := 9) (oi := _) (v := _) rfl (by kernel_rfl) (by kernel_rfl) (by kernel_rfl) (fun _ _ _ h => h) (Or.inl ⟨by kernel_rfl, ?_⟩) (by assumption) ?_
    rotate_left
    · (intro w hSw; (try dsimp only at hSw); go_simp; try (with_reducible rfl))
    try simp only [List.getElem_toArray, List.getElem_cons_succ, List.getElem_cons_zero, Act.put, List.setIfInBounds_toArray, List.set_cons_zero, List.set_cons_succ]
    refine' wpAnyH_take (i := 10) (oi := _) (v := _) rfl (by kernel_rfl) (by kernel_rfl) (by kernel_rfl) (fun _ _ _ h => h) (Or.inl ⟨by kernel_rfl, ?_⟩) (by assumption) ?_
    rotate_left
    · (intro w hSw; (try dsimp only at hSw); go_simp; try (with_reducible rfl))
    try simp only [List.getElem_toArray, List.getElem_cons_succ, List.getElem_cons_zero, Act.put, List.setIfInBounds_toArray, List.set_cons_zero, List.set_cons_succ]
    refine' wpAnyH_take (i := 11) (oi := _) (v := _) rfl (by kernel_rfl) (by kernel_rfl) (by kernel_rfl) (fun _ _ _ h => h) (Or.inl ⟨by kernel_rfl, ?_⟩) (by assumption) ?_
    rotate_left
    · (intro w hSw; (try dsimp only at hSw); go_simp; try (with_reducible rfl))
    try simp only [List.getElem_toArray, List.getElem_cons_succ, List.getElem_cons_zero, Act.put, List.setIfInBounds_toArray, List.set_cons_zero, List.set_cons_succ]
    refine wpAnyH_ready (rs := [12]) (by kernel_rfl) (by simp) ?_
    refine AllReadyH.cons (o := _) rfl (fun KK hK => ?_) AllReadyH.nil
    have HK8 := hid (row_on HKY.out (btr BX7.out HB8.out))
    have fz := row_frz HK8.out 2
    obtain ⟨k0, k1, k2, k3, k4, k5, k6⟩ := row7 HK8.out
    have k9 := Kp.set X8 K 2 (.slice (some ⟨G, 0, none⟩) 1 gc)
    have GK : G ≠ K := HLS.out.ne HK8.out (by decide)
    have HK9 := hid (show (X8.setCell ⟨K, 2, none⟩ (.slice (some ⟨G, 0, none⟩) 1 gc)).heap[K]? = some (.cells #[fv, .int .i64 1, .slice (some ⟨G, 0, none⟩) 1 gc, .int .u64 x.nm, .int .u64 seq, .int .i64 0, .bool false] 54 (0, 0)) from set_row (k := 2) _ HK8.out)
    have HL9 := hid (HLZ.out.kept (k9.obj G HLS.out.lt GK))
    have HR9 := hid (k9.row (row_on HRY.out (btr BX7.out HB8.out)) (fun e => row_ne HRY.out HKY.out (by decide) e))
    have HP9 := hid (show Kp (fun j => j = K) w (X8.setCell ⟨K, 2, none⟩ (.slice (some ⟨G, 0, none⟩) 1 gc)) from (HP4.out.trans (Kp.of _ (btr HE0.out (btr BX7.out HB8.out))) (fun _ _ h => h)).trans k9 (fun _ _ h => h))
    go_simp
    refine hK.out _ _ ?_ (fun hHeld => ?_)
    · (try dsimp only); exact row8 HR9.out
    clear hK k9 fz k0 k1 k2 k3 k4 k5 k6
    try simp only [List.getElem_toArray, List.getElem_cons_succ, List.getElem_cons_zero, Act.put, List.setIfInBounds_toArray, List.set_cons_zero, List.set_cons_succ]
    refine wpAnyH_done (by kernel_rfl) ?_ _
    obtain ⟨W9, hW9⟩ : ∃ X, X8.setCell ⟨K, 2, none⟩ (.slice (some ⟨G, 0, none⟩) 1 gc) = X := ⟨_, rfl⟩
    rw [hW9] at HK9 HL9 HR9 HP9 ⊢
    clear hW9 hHeld
    have HWG := hid (show w.heap.size ≤ G from Nat.le_trans HP4.out.size (Nat.le_trans HE0.out.size (Nat.le_trans BX7.out.size HG.out)))
    obtain ⟨a0, a1, a2, a3, a4, a5, a6, a7⟩ := row8 HR9.out
    have CE := hid (fun (U : World) => eventOf_any x 0 U)
    have CT := hid (fun (U : World) (hU : Below W9.heap.size W9 U) => wtell K fv (some ⟨G, 0, none⟩) 1 gc x.nm seq U.heap.size ⟨0, 6, x.nm, 0, IntKind.u64.wrap x.tr, x.mb, x.sd, x.ty, x.pr, x.qt, x.pk, 0, 0⟩ (U.alloc (.cells #[.int .u64 0, .int .i64 6, .int .u64 x.nm, .int .u64 0, .int .u64 (IntKind.u64.wrap x.tr), .int .u32 x.mb, .int .i64 x.sd, .int .i64 x.ty, .int .i64 x.pr, .int .u64 x.qt, .int .u64 x.pk, .int .i64 0, .int .i64 0] 38)) (row_on HK9.out (btr hU (ball _ _))) (World.alloc_heap_new _ _))
    have CG := hid (fun (U : World) (h1 : U.heap[K]? = some (.cells #[fv, .int .i64 1, .slice (some ⟨G, 0, none⟩) 1 gc, .int .u64 x.nm, .int .u64 (nx seq), .int .i64 0, .bool false] 54 (0, 0))) (h2 : Ls U G x) (q : Option Addr) (m d : Nat) => letGo_any K fv G gc x.nm (nx seq) x q m d U h1 h2)
    go_wp2_with (first | (go_at_call 15; with_reducible refine (CE.out _).mono ?_; rintro e u1 ⟨rfl, hb1⟩; have HB1 := hid hb1; clear hb1) | (go_at_call 13; with_reducible refine (CT.out u1 HB1.out).mono ?_; rintro e u2 ⟨g, cap, rfl, h1, h2, h3, h4⟩; have HKU := hid ((Kp.of (fun j => j = K) (btr HB1.out (ball u1 _))).trans h4.out (fun _ _ h => h)); have HLU := hid (HL9.out.kept (HKU.out.obj G HL9.out.ls.lt GK))) | (go_at_call 14; with_reducible refine (CG.out u2 h3.out HLU.out.ls _ _ _).mono ?_; rintro e u3 ⟨rfl, hb3⟩; have HB3 := hid hb3; clear hb3))
    go_ret
    exact ⟨g, cap, G, gc, rfl, hid (Nat.le_trans HP9.out.size (Nat.le_trans HB1.out.size (Nat.le_trans (ball u1 _).size h1.out))), hid (h2.out.on HB3.out), hid (row_on h3.out HB3.out), hid (HLU.out.on HB3.out), HWG, hid ((HP9.out.trans HKU.out (fun _ _ h => h)).trans (Kp.of _ HB3.out) (fun _ _ h => h))⟩
end Go.Proofs.Ytnaekdfpdlkkcaa
