/-
  Balance, Entries.
-/
import Derived.Test.YtdbnkidfclgnfaaAcJ
import Derived.OwnWalk
namespace Go.Proofs.Ytdbnkidfclgnfaa.Ac
open Go.RowKit Go.Deep Go.Maps Go.Proofs.Ytdbnkidfclgnfaa.MonM
set_option linter.unusedVariables false
set_option linter.unusedSimpArgs false
set_option maxHeartbeats 8000000
set_option maxRecDepth 100000
attribute [local go_sem ↓] Go.wp_at_zero Go.wp_at_succ
theorem grown_refl (w : World) (r : Option Nat) : w.grownBy w r := ⟨rfl, rfl, rfl, Nat.le_refl _, fun _ _ _ => rfl⟩
theorem own_form {base : Nat} {w : World} {e : TypeId} {size n : Nat} {v : Value} {xs : List Value} (h : w.ownsRow base e size v n xs) : ∃ p c, v = .slice p n c := by
  obtain ⟨_, ⟨rfl, rfl⟩ | ⟨g, c, cur, rfl, _⟩⟩ := h
  · exact ⟨none, 0, rfl⟩
  · exact ⟨_, _, rfl⟩
theorem own_nil (w : World) (base : Nat) (e : TypeId) (size : Nat) : w.ownsRow base e size (.slice none 0 0) 0 [] := ⟨by simp, .inl ⟨rfl, rfl⟩⟩
theorem own_cells {base : Nat} {w : World} {e : TypeId} {size n c : Nat} {ad : Addr} {xs : List Value} (h : w.ownsRow base e size (.slice (some ad) n c) n xs) : xs.length = n * size ∧ ∀ j u, xs[j]? = some u → w.cell? (ad.add j) = some u := by
  obtain ⟨h1, ⟨e', e2⟩ | ⟨g, c', cur, e', r1, r2, r3, r4, r5, r6⟩⟩ := h
  · cases (Value.slice.inj e').1
  · obtain ⟨e3, _, rfl⟩ := Value.slice.inj e'
    injection e3 with e3
    subst e3
    refine ⟨h1, fun j u hj => ?_⟩
    rw [Addr.add_lit, Nat.zero_add, row_cell r2]
    have hl := (List.getElem?_eq_some_iff.1 hj).1
    have := congrArg (fun z => z[j]?) r6
    simp only [List.getElem?_take, show j < n * size by omega, if_true, Array.getElem?_toList] at this
    rw [this, hj]
theorem own_cap {base : Nat} {w : World} {e : TypeId} {size n c : Nat} {p : Option Addr} {xs : List Value} (h : w.ownsRow base e size (.slice p n c) n xs) : n ≤ c ∧ c ≤ maxLen ∧ (p = none → n = 0 ∧ c = 0) := by
  obtain ⟨h1, ⟨e', e2⟩ | ⟨g, c', cur, e', r1, r2, r3, r4, r5, r6⟩⟩ := h
  · obtain ⟨_, h2, rfl⟩ := Value.slice.inj e'
    exact ⟨by omega, Nat.zero_le _, fun _ => ⟨by omega, rfl⟩⟩
  · obtain ⟨rfl, _, rfl⟩ := Value.slice.inj e'
    exact ⟨r3, r4, fun h => by cases h⟩
theorem info_parts {e : TypeId} {z : Value} {size bytes : Nat} (h : (Try.prog.info? e).map (fun i => (i.zero, i.size, i.bytes)) = some (some z, size, bytes)) : ∃ i0, Try.prog.info? e = some i0 ∧ i0.zero = some z ∧ i0.size = size ∧ i0.bytes = bytes := by
  cases hq : Try.prog.info? e with
  | none => rw [hq] at h; cases h
  | some i =>
    rw [hq] at h
    simp only [Option.map_some, Option.some.injEq, Prod.mk.injEq] at h
    exact ⟨i, rfl, h.1, h.2.1, h.2.2⟩
theorem infoE6 : (Try.prog.info? 80).map (fun i => (i.zero, i.size, i.bytes)) = some (some (.agg #[.int .u32 0, .int .i64 0, .int .u32 0, .int .i64 0, .int .u64 0, .int .u64 0]), 6, 48) := by kernel_rfl
/-- rows that may be read are put behind a slice of one's own. -/
theorem wpList_app_rd {w : World} {ops : Array Oper} {rest : List Oper} {oo : Oper} {a : Act} {Q : Exit → Act → World → Prop} (hgd : oo.guard = none) (s x : Operand) (t e : TypeId) (z : Value) (size bytes : Nat)
    (ho : oo.op = .call { callee := .builtin .append, args := #[s, x], argTypes := #[t, t] }) (ht : Try.prog.underlying t = some (.slice e)) (hinf : (Try.prog.info? e).map (fun i => (i.zero, i.size, i.bytes)) = some (some z, size, bytes)) (hzs : z.cells.size = size) (hsz : 0 < size)
    (base : Nat) (v : Value) (n : Nat) (ys : List Value) (hs : a.eval s = v) (hown : w.ownsRow base e size v n ys)
    (q : Option Addr) (c m : Nat) (xs : List Value) (hx : a.eval x = .slice q m c) (hq : q = none → m = 0 ∧ c = 0) (hln : xs.length = m * size) (hrd : ∀ ad, q = some ad → ∀ j u, xs[j]? = some u → w.cell? (ad.add j) = some u) (h1 : ∀ u ∈ xs, u.oneCell' = true)
    (h63 : n + m ≤ maxLen) (hbytes : (n + m) * bytes ≤ 140737488355328) (hbase : base ≤ w.heap.size)
    (h : ∀ v' w', w'.ownsRow base e size v' (n + m) (ys ++ xs) → w.grownBy w' v.ownBlock → wpList Try.prog ops Q rest (a.put oo.dst v') w') : wpList Try.prog ops Q (oo :: rest) a w := by
  obtain ⟨i0, hi, hz0, hz1, hz2⟩ := info_parts hinf
  cases q with
  | none =>
    obtain ⟨rfl, rfl⟩ := hq rfl
    obtain rfl : xs = [] := List.length_eq_zero_iff.1 (by simpa using hln)
    exact wpList_append_own_none hgd s x t ho base e i0 size ht hi v n ys hs hown hx (h v w (by simpa using hown) (grown_refl _ _))
  | some ad =>
    exact wpList_append_own _ hgd s x t ho base e i0 _ size bytes ht hi hz0 hz1 hz2 hzs hsz v n ys hs hown ad m c xs hx hln (hrd ad rfl) h1 h63 hbytes hbase (fun v' w' h2 h3 _ => h v' w' h2 h3)
theorem below_grown {w W U : World} {v : Value} {e : TypeId} {size n : Nat} {xs : List Value} (hb : Below w.heap.size w W) (hv : W.ownsRow w.heap.size e size v n xs) (hg : W.grownBy U v.ownBlock) : Below w.heap.size w U :=
  hb.grown hg hb.size (fun j hj => by
    obtain ⟨_, ⟨e, _⟩ | ⟨g, c, cur, e, r1, _⟩⟩ := hv
    · rw [e] at hj; cases hj
    · rw [e] at hj; cases hj; exact r1)
theorem entries_any {w : World} {G : Nat} {O : Nat → Prop} {k : Nat} {s : Ls} (h : Lg w G O k s) (hk : k ≤ 1000000000000) :
    Calls Try.prog 6 #[.pointer (some ⟨G, 0, none⟩)] w fun e w' => ∃ p' c', e = .returned (.slice p' s.es.length c') ∧ Below w.heap.size w w' := by
  obtain ⟨B, P, p, c, h⟩ := h
  have hl := h.len
  have a0 := row_cell h.row 4
  unfold lrow at a0
  simp only [List.getElem?_toArray, List.getElem?_cons_succ, List.getElem?_cons_zero] at a0
  obtain ⟨hc1, hc2, hc3⟩ := own_cap h.own
  have HX := hid (enc_len s.es)
  have HL := hid (show ∀ ad, p = some ad → ∀ j u, (enc s.es)[j]? = some u → w.cell? (ad.add j) = some u from fun ad e => by
    have ho := h.own
    subst e
    exact (own_cells ho).2)
  have HO := hid (own_nil w w.heap.size 80 6)
  obtain ⟨n, hn⟩ : ∃ n, s.es.length = n := ⟨_, rfl⟩
  rw [hn] at a0 hl HX hc1 hc3 ⊢
  have HQ := hid hc3
  clear hc3 hn h
  have hmx : n ≤ maxLen := by omega
  go_enter Try.func6, Try.ntmps6
  go_wp2_with (at_builtin; refine wpList_app_rd (by rfl) (.const (.slice none 0 0)) (.tmp 6) 33 80 _ 6 48 (by rfl) Try.underlying33 infoE6 rfl (by decide) w.heap.size _ 0 [] (by rfl) HO.out p c n (enc s.es) (by rfl) HQ.out HX.out HL.out (enc_one s.es) (by omega) (by omega) (Nat.le_refl _) ?_; intro v' w' hown hgrow; obtain ⟨p1, q1, rfl⟩ := own_form hown; have HO1 := hid hown; have HG1 := hid hgrow; clear hown hgrow)
  go_ret
  exact ⟨p1, q1, by simp, below_grown (Below.refl _ _) HO.out HG1.out⟩
theorem balance_any {w : World} {G : Nat} {O : Nat → Prop} {k : Nat} {s : Ls} (h : Lg w G O k s) (m t : Int) (hm : U32 m) (ht : (Lit.int .i64 t).wf = true) :
    Calls Try.prog 15 #[.pointer (some ⟨G, 0, none⟩), .agg #[.int .u32 m, .int .i64 t]] w fun e w' => e = .returned (mv ((s.f (m, t)).getD 0)) ∧ Below w.heap.size w w' := by
  obtain ⟨B, P, p, c, h⟩ := h
  obtain ⟨Wa, hWa⟩ : ∃ W, w.alloc (.cells #[.int .u32 m, .int .i64 t] 51) = W := ⟨_, rfl⟩
  obtain ⟨Wb, hWb⟩ : ∃ W, Wa.alloc (.cells #[.int .u64 0, .int .u64 0] 36) = W := ⟨_, rfl⟩
  obtain ⟨R, hR⟩ : ∃ R, w.heap.size = R := ⟨_, rfl⟩
  have sa : Wa.heap.size = R + 1 := by rw [← hWa, ← hR]; exact Array.size_push _
  have ba : Below w.heap.size w Wa := by rw [← hWa]; exact ball _ _
  have bb : Below Wa.heap.size Wa Wb := by rw [← hWb]; exact ball _ _
  have HK := hid (show Wb.heap[R]? = some (.cells #[.int .u32 m, .int .i64 t] 51 (0, 0)) from row_on (by rw [← hWa, ← hR]; exact World.alloc_heap_new _ _) bb)
  have HX := hid (show Wb.heap[R + 1]? = some (.cells #[.int .u64 0, .int .u64 0] 36 (0, 0)) from by rw [← hWb, ← sa]; exact World.alloc_heap_new _ _)
  have HBB := hid (btr ba bb)
  have h' := h.on HBB.out
  have HG := hid h'.row
  unfold lrow at HG
  have LK := hid (fun U (hU : Below Wb.heap.size Wb U) => (h'.on hU).bal.get m t hm ht)
  have yS : w.heap.size ≤ R + 1 := by omega
  have gR : G < R := by rw [← hR]; exact row_lt h.row
  have n1 : G ≠ R + 1 := by omega
  have n2 : R ≠ R + 1 := by omega
  obtain ⟨v, hv⟩ : ∃ v, (s.f (m, t)).getD 0 = v := ⟨_, rfl⟩
  rw [hv] at LK ⊢
  unfold mv at LK ⊢
  have HWa := hid hWa
  have HWb := hid hWb
  have HR := hid hR
  have HH := hid h'
  clear h hv hm ht hWa hWb hR sa ba bb h'
  go_enter Try.func15, Try.ntmps15
  go_upto_region 1 with fail
  rw [HWa.out, HWb.out, HR.out]
  clear HWa HWb
  obtain ⟨V1, hV1⟩ : ∃ U, Wb.drew = U := ⟨_, rfl⟩
  have BV1 := hid (show Below Wb.heap.size Wb V1 from by rw [← hV1]; exact bdrew1 _)
  have r2 := hid (row_on HG.out BV1.out)
  have r3 := hid (row_on HK.out BV1.out)
  have r4 := hid (row_on HX.out BV1.out)
  refine wp_region_held_drew (S := fun U => U.cell? ⟨G, 3, none⟩ = some (.map B) ∧ U.cell? ⟨R, 0, none⟩ = some (.int .u32 m) ∧ U.cell? ⟨R, 1, none⟩ = some (.int .i64 t)) (by kernel_rfl) ?_ (fun hHeld => ?_)
  · (try dsimp only); rw [hV1]; exact ⟨row_cell r2.out 3, row_cell r3.out 0, row_cell r3.out 1⟩
  rw [hV1] at hHeld ⊢
  clear hV1
  refine' wpAnyH_take (i := 0) (oi := _) (v := _) rfl (by kernel_rfl) (by kernel_rfl) (by kernel_rfl) (fun _ _ _ h => h) (Or.inl ⟨by kernel_rfl, ?_⟩) (by assumption) ?_
  rotate_left
  · (intro w hSw; (try dsimp only at hSw); go_simp; try (with_reducible rfl))
  try simp only [List.getElem_toArray, List.getElem_cons_succ, List.getElem_cons_zero, Act.put, List.setIfInBounds_toArray, List.set_cons_zero, List.set_cons_succ]
  refine' wpAnyH_take (i := 1) (oi := _) (v := _) rfl (by kernel_rfl) (by kernel_rfl) (by kernel_rfl) (fun _ _ _ h => h) (Or.inl ⟨by kernel_rfl, ?_⟩) (by assumption) ?_
  rotate_left
  · (intro w hSw; (try dsimp only at hSw); go_simp; try (with_reducible rfl))
  try simp only [List.getElem_toArray, List.getElem_cons_succ, List.getElem_cons_zero, Act.put, List.setIfInBounds_toArray, List.set_cons_zero, List.set_cons_succ]
  refine' wpAnyH_take (i := 2) (oi := _) (v := _) rfl (by kernel_rfl) (by kernel_rfl) (by kernel_rfl) (fun _ _ _ h => h) (Or.inl ⟨by kernel_rfl, ?_⟩) (by assumption) ?_
  rotate_left
  · (intro w hSw; (try dsimp only at hSw); go_simp; try (with_reducible rfl))
  try simp only [List.getElem_toArray, List.getElem_cons_succ, List.getElem_cons_zero, Act.put, List.setIfInBounds_toArray, List.set_cons_zero, List.set_cons_succ]
  refine' wpAnyH_take (i := 3) (oi := _) (v := _) rfl (by kernel_rfl) (by kernel_rfl) (by kernel_rfl) (fun _ _ _ h => h) (Or.inl ⟨by kernel_rfl, ?_⟩) (by assumption) ?_
  rotate_left
  · (intro w hSw; (try dsimp only at hSw); go_simp; try (with_reducible rfl))
  try simp only [List.getElem_toArray, List.getElem_cons_succ, List.getElem_cons_zero, Act.put, List.setIfInBounds_toArray, List.set_cons_zero, List.set_cons_succ]
  refine' wpAnyH_take (i := 4) (oi := _) (v := _) rfl (by kernel_rfl) (by kernel_rfl) (by kernel_rfl) (fun _ _ _ h => h) (Or.inl ⟨by kernel_rfl, ?_⟩) (by assumption) ?_
  rotate_left
  · (intro w hSw; (try dsimp only at hSw); go_simp; try (with_reducible rfl))
  try simp only [List.getElem_toArray, List.getElem_cons_succ, List.getElem_cons_zero, Act.put, List.setIfInBounds_toArray, List.set_cons_zero, List.set_cons_succ]
  refine wpAnyH_ready (rs := [5]) (by kernel_rfl) (by simp) ?_
  refine (AllReadyH.cons (o := _) rfl (fun K hK => ?_) AllReadyH.nil)
  have hl := LK.out _ BV1.out
  go_simp
  refine hK.out _ _ ?_ (fun hHeld => ?_)
  · (try dsimp only); exact ⟨row_cell r2.out 3, row_cell r3.out 0, row_cell r3.out 1⟩
  clear hK K
  try simp only [List.getElem_toArray, List.getElem_cons_succ, List.getElem_cons_zero, Act.put, List.setIfInBounds_toArray, List.set_cons_zero, List.set_cons_succ]
  refine wpAnyH_ready (rs := [6]) (by kernel_rfl) (by simp) ?_
  refine (AllReadyH.cons (o := _) rfl (fun K hK => ?_) AllReadyH.nil)
  refine step_store_row (by rfl) 36 (.tmp 4) (.tmp 10) (by rfl) (R + 1) #[.int .u64 (hiW v), .int .u64 (loW v)] (by rfl) (by rfl) 36 _ r4.out infoM (by rfl) (by simp [Value.oneCell']) ?_
  obtain ⟨Y5, hY5⟩ : ∃ Y, V1.setRow (R + 1) #[.int .u64 (hiW v), .int .u64 (loW v)] = Y := ⟨_, rfl⟩
  have KY5 := hid (show Kp (fun j => j = R + 1) V1 Y5 from by rw [← hY5]; exact setRow_kp _ _ _)
  have AY5 := hid (show Y5.heap[R + 1]? = some (.cells #[.int .u64 (hiW v), .int .u64 (loW v)] 36 (0, 0)) from by rw [← hY5]; exact setRow_heap V1 (R + 1) _ _ 36 (0, 0) r4.out)
  have r6 := hid (KY5.out.row r2.out (fun e => n1 e))
  have r7 := hid (KY5.out.row r3.out (fun e => n2 e))
  rw [hY5]
  refine hK.out _ _ ?_ (fun hHeld => ?_)
  · (try dsimp only); exact ⟨row_cell r6.out 3, row_cell r7.out 0, row_cell r7.out 1⟩
  clear hK K
  try simp only [List.getElem_toArray, List.getElem_cons_succ, List.getElem_cons_zero, Act.put, List.setIfInBounds_toArray, List.set_cons_zero, List.set_cons_succ]
  clear hY5
  refine wpAnyH_done (by kernel_rfl) ?_ _
  go_wp2
  refine bodyPost_ret (results_cell_row (fn := Try.f15) Try.results15 _ _ (R + 1) 36 #[.int .u64 (hiW v), .int .u64 (loW v)] (0, 0) _ (by rfl) AY5.out Try.underlying36 rfl infoM) rfl ⟨rfl, ?_⟩
  exact (btr HBB.out BV1.out).trans (KY5.out.below (btr HBB.out BV1.out).size (fun j hj e => by have := HR.out; omega))
end Go.Proofs.Ytdbnkidfclgnfaa.Ac
