/-
  What is left of an interest is lessened; interests are taken out of a list.
-/
import Derived.Test.YtnmkfdndfhefiaaGreatGb
import Derived.Deep.Upon
namespace Go.Proofs.YtnmkfdndfhefiaaGreat
open Go.RowKit Go.Deep Go.Shelf
set_option linter.unusedVariables false
set_option linter.unusedSimpArgs false
set_option maxHeartbeats 4000000
set_option maxRecDepth 100000
theorem its_at {l : List It} {j : Nat} (hj : j < l.length * 6) : (its l)[j]? = (irow (l[j / 6]'(by omega))).toList[j % 6]? := by
  have := its_get (l := l) (i := j / 6) (j := j % 6) (by omega) (by omega)
  rw [show j / 6 * 6 + j % 6 = j by omega] at this
  exact this
theorem Li.curAt {l : List It} {cur : Array Value} (ht : cur.toList.take (l.length * 6) = its l) {j : Nat} (hj : j < l.length * 6) : cur[j]? = (its l)[j]? := by
  have := congrArg (fun z => z[j]?) ht
  simpa only [List.getElem?_take, hj, if_true, Array.getElem?_toList] using this
/-- other interests are laid over a list from a place on. -/
theorem Li.over {w : World} {g c : Nat} {l : List It} (h : Li w (Option.some ⟨g, 0, none⟩) c l) (h0 : 0 < l.length) (i : Nat) (m : List It) (hi : i ≤ l.length) (hc : i + m.length ≤ c) : Li (w.setCells g (i * 6) (its m)) (Option.some ⟨g, 0, none⟩) c (l.take i ++ m) := by
  obtain ⟨g', cur, e, hr, hs, hlc, hcm, ht⟩ := h.some h0
  injection e with e
  injection e with e
  subst e
  have hl : (l.take i ++ m).length = i + m.length := by simp; omega
  unfold Li
  rw [hl]
  have htk : ((its l).take (i * 6)).length = i * 6 := by rw [List.length_take, its_len]; omega
  refine own_ext (Nat.zero_le _) (setCells_row _ _ _ _ hr) hc hcm (by rw [spl_size]; exact hs) (by rw [its_len, hl]) (fun j hj => ?_)
  rw [its_app, ← its_take]
  by_cases hj2 : j < i * 6
  · rw [spl_out _ _ _ _ (.inl hj2), List.getElem?_append_left (by omega), List.getElem?_take, if_pos hj2]
    exact Li.curAt ht (by omega)
  · have := spl_in (its m) cur (i * 6) (j - i * 6) (by rw [its_len]; omega) (by rw [hs]; omega)
    rw [show i * 6 + (j - i * 6) = j by omega] at this
    rw [this, List.getElem?_append_right (by omega), htk]
/-- what is written behind a list leaves it alone. -/
theorem Li.behind {w : World} {g c : Nat} {L : List It} (h : Li w (Option.some ⟨g, 0, none⟩) c L) (k : Nat) (vs : List Value) (hk : L.length ≤ k) : Li (w.setCells g (k * 6) vs) (Option.some ⟨g, 0, none⟩) c L := by
  obtain ⟨h1, ⟨e, e2⟩ | ⟨g', c', cur, e, r1, r2, r3, r4, r5, r6⟩⟩ := h
  · cases (Value.slice.inj e).1
  · obtain ⟨e1, _, e3⟩ := Value.slice.inj e
    injection e1 with e1
    injection e1 with e1
    subst e1
    subst e3
    refine own_ext (Nat.zero_le _) (setCells_row _ _ _ _ r2) r3 r4 (by rw [spl_size]; exact r5) (its_len L) (fun j hj => ?_)
    rw [spl_out _ _ _ _ (.inl (by omega))]
    exact Li.curAt r6 hj
/-- less of an interest. -/
def lss (x : It) (q : Int) : It := { x with qt := x.qt - q }
theorem Li.less {w : World} {g c : Nat} {l : List It} (h : Li w (Option.some ⟨g, 0, none⟩) c l) {i : Nat} (hi : i < l.length) (q : Int) : Li (w.setCell ⟨g, i * 6 + 5, none⟩ (.int .u64 (l[i].qt - q))) (Option.some ⟨g, 0, none⟩) c (l.set i (lss l[i] q)) := by
  obtain ⟨g', cur, e, hr, hs, hlc, hcm, ht⟩ := h.some (by omega)
  injection e with e
  injection e with e
  subst e
  unfold Li
  rw [List.length_set]
  refine own_ext (Nat.zero_le _) (heap_setCell_same w g (i * 6 + 5) cur 35 _ hr) hlc hcm (by rw [Array.size_setIfInBounds]; exact hs) (by rw [its_len, List.length_set]) (fun j hj => ?_)
  have e1 := its_at (l := l.set i (lss l[i] q)) (j := j) (by rw [List.length_set]; exact hj)
  rw [e1, Array.getElem?_setIfInBounds]
  by_cases hj2 : i * 6 + 5 = j
  · rw [if_pos hj2, if_pos (by omega)]
    have e2 : j / 6 = i := by omega
    have e3 : j % 6 = 5 := by omega
    rw [e3]
    simp only [e2, List.getElem_set_self]
    rfl
  · rw [if_neg hj2, Li.curAt ht hj, its_at hj]
    by_cases e2 : j / 6 = i
    · subst e2
      simp only [List.getElem_set_self]
      have e3 : j % 6 < 5 := by omega
      obtain ⟨q', hq⟩ : ∃ q, j % 6 = q := ⟨_, rfl⟩
      rw [hq] at e3 ⊢
      rcases q' with _ | _ | _ | _ | _ | q'
      · rfl
      · rfl
      · rfl
      · rfl
      · rfl
      · omega
    · simp only [List.getElem_set, show ¬ i = j / 6 from fun e => e2 e.symm, if_false]
theorem take_any (p : Option Addr) (c : Nat) (l : List It) (i : Nat) (q : Int) (w : World) (h : Li w p c l) (hi : i < l.length) (h0 : 0 ≤ q) (h1 : q ≤ l[i].qt) (h2 : l[i].qt ≤ 4294967295) :
    Calls Tryz.prog 70 #[.slice p l.length c, .int .i64 i, .int .u64 q] w fun e w' => e = .returned (.bool (decide (l[i].qt = q))) ∧ Li w' p c (l.set i (lss l[i] q)) ∧ Kp (OfP p) w w' := by
  obtain ⟨g, rfl, a0, a1, a2, a3, a4, a5⟩ := h.cells hi
  obtain ⟨cu, hg⟩ := h.ty (OfP.mk g)
  have f5 := row_frz hg (i * 6 + 5)
  have HF := hid (h.less hi q)
  obtain ⟨z, hz⟩ : ∃ z, l[i] = z := ⟨_, rfl⟩
  rw [hz] at a5 h1 h2 HF ⊢
  have w1 : IntKind.u64.wrap (z.qt - q) = z.qt - q := by rw [IntKind.wrap_u64]; omega
  have HD := hid (show decide (z.qt = q) = (z.qt - q == 0) by by_cases e : z.qt = q <;> simp [e]; omega)
  obtain ⟨n, hn⟩ : ∃ n, l.length = n := ⟨_, rfl⟩
  rw [hn] at hi ⊢
  have i0 : (0 : Int) ≤ (i : Int) := by omega
  have i1 : (i : Int) < (n : Int) := by omega
  have hnc : (w.setCell ⟨g, i * 6 + 5, none⟩ (.int .u64 (z.qt - q))).cell? ⟨g, i * 6 + 5, none⟩ = some (.int .u64 (z.qt - q)) := by
    have hlt : i * 6 + 5 < cu.size := by
      have := row_cell hg (i * 6 + 5)
      rw [a5] at this
      exact (Array.getElem?_eq_some_iff.1 this.symm).1
    rw [row_cell (heap_setCell_same w g (i * 6 + 5) cu 35 _ hg), Array.getElem?_setIfInBounds, if_pos rfl, if_pos hlt]
  clear h hz hg a0 a1 a2 a3 a4 hn
  go_enter Tryz.func70, Tryz.ntmps70
  go_wp2
  go_ret
  exact ⟨by rw [HD.out]; rfl, HF.out, (Kp.set _ _ _ _).mono (fun b _ e => by rw [e]; exact OfP.mk g)⟩
theorem clearI {w : World} {g c : Nat} {L : List It} (h : Li w (some ⟨g, 0, none⟩) c L) (o k cc : Nat) (hk : 0 < k) (ho : o + k ≤ c) (ty : TypeId) : ∃ vs, (Builtin.clear_ #[71] ty #[.slice (some ⟨g, o * 6, none⟩) k cc]).run Tryz.prog w = .ok (.tuple #[]) (w.setCells g (o * 6) vs) := by
  obtain ⟨h1, ⟨e, e2⟩ | ⟨g', c', cur, e, r1, hr, r3, r4, hs, r6⟩⟩ := h
  · cases (Value.slice.inj e).1
  obtain ⟨e1, _, e3⟩ := Value.slice.inj e
  injection e1 with e1
  injection e1 with e1
  subst e1
  subst e3
  obtain ⟨k', rfl⟩ : ∃ k', k = k' + 1 := ⟨k - 1, by omega⟩
  have hzl : (Builtin.zeroCells (Value.agg #[.int .u64 0, .int .u32 0, .int .i64 0, .int .i64 0, .int .i64 0, .int .u64 0]).cells (k' + 1)).toList.length = (k' + 1) * 6 := by simp [Builtin.zeroCells, Value.cells]
  have hz1 : ∀ v ∈ (Builtin.zeroCells (Value.agg #[.int .u64 0, .int .u32 0, .int .i64 0, .int .i64 0, .int .i64 0, .int .u64 0]).cells (k' + 1)).toList, v.oneCell' = true := by
    intro v hv
    simp only [Builtin.zeroCells, Value.cells] at hv
    rw [Array.mem_toList_iff, Array.mem_map] at hv
    obtain ⟨k, _, rfl⟩ := hv
    have hk : k % 6 < 6 := Nat.mod_lt _ (by omega)
    obtain ⟨q, hq⟩ : ∃ q, k % 6 = q := ⟨_, rfl⟩
    simp only [List.size_toArray, List.length_cons, List.length_nil, Nat.zero_add]
    rw [show k % (0 + 1 + 1 + 1 + 1 + 1 + 1) = q from hq]
    rw [hq] at hk
    rcases q with _ | _ | _ | _ | _ | _ | q
    · rfl
    · rfl
    · rfl
    · rfl
    · rfl
    · rfl
    · omega
  refine ⟨(Builtin.zeroCells (Value.agg #[.int .u64 0, .int .u32 0, .int .i64 0, .int .i64 0, .int .i64 0, .int .u64 0]).cells (k' + 1)).toList, ?_⟩
  have hst := run_storeCells_cells (P := Tryz.prog) g (o * 6) (Builtin.zeroCells (Value.agg #[.int .u64 0, .int .u32 0, .int .i64 0, .int .i64 0, .int .i64 0, .int .u64 0]).cells (k' + 1)).toList 0 w (fun j hj => by
    rw [hzl] at hj
    rw [row_cell hr, Nat.add_zero, Array.getElem?_eq_getElem (by rw [hs]; omega)]
    rfl) (fun j hj => row_frz hr _) hz1
  simp only [Nat.add_zero] at hst
  have hv := Tryz.zeroValue35
  simp [Builtin.clear_, run_underlying Tryz.underlying71, hv, hst]
section
variable {P : Program}
/-- an append whose run is known, in a region that draws its order. -/
theorem step_append_known {ops : Array Oper} {o : Oper} {a : Act} {w : World} {K : Act → World → Prop} {Q : Exit → Act → World → Prop} {E : Prop} (hg : o.guard = none) (d x : Operand) (dT sT : TypeId)
    (ho : o.op = .call { callee := .builtin .append, args := #[d, x], argTypes := #[dT, sT] }) (v u : Value) (hd : a.eval d = v) (hx : a.eval x = u) {v' : Value} {w' : World} (hr : (Builtin.append_ #[dT, sT] o.type #[v, u]).run P w = .ok v' w') (hK : K (a.put o.dst v') w') :
    if Region.wanted o (yielded ops a.tmps) = true then Oper.wp P o a w K Q else E := by
  rw [if_pos (by simp [Region.wanted, hg])]
  unfold Oper.wp
  simp [execOp, ho, resolve, invoke, builtin, hd, hx, hr, Result.andThen]
  exact hK
theorem src0 (w : World) {size : Nat} {t e : TypeId} (hk : P.underlying t = some (.slice e)) (ad : Addr) (c : Nat) : Src P size t (.slice (some ad) 0 c) 0 [] w :=
  Src.ofSlice w hk ad 0 c [] (by simp) (by simp) (by simp)
end
theorem delete_same (p : Option Addr) (c : Nat) (l : List It) (i : Nat) (w : World) (h : Li w p c l) (hi : i ≤ l.length) (hn : l.length ≤ 4096) :
    Calls Tryz.prog 55 #[.slice p l.length c, .int .i64 i, .int .i64 i] w fun e w' => e = .returned (.slice p l.length c) ∧ w' = w := by
  have hc := h.cap
  obtain ⟨n, hnn⟩ : ∃ n, l.length = n := ⟨_, rfl⟩
  rw [hnn] at hi hn hc ⊢
  have b1 : (i : Int) ≤ (n : Int) := by omega
  have b2 : (n : Int) ≤ (c : Int) := by omega
  have b3 : (0 : Int) ≤ (i : Int) := by omega
  have zq : ((i : Int) == (i : Int)) = true := by simp
  have hcn := hc.1
  have hcc := hc.2
  clear h hc hnn
  cases p with
  | none =>
    go_enter Tryz.func55, Tryz.ntmps55
    go_wp2
    all_goals (go_ret; exact ⟨rfl, rfl⟩)
  | some a =>
    obtain ⟨ab, ao, asp⟩ := a
    go_enter Tryz.func55, Tryz.ntmps55
    go_wp2
    all_goals (go_ret; exact ⟨rfl, rfl⟩)
theorem delete_any (g c : Nat) (l : List It) (i j : Nat) (w : World) (h : Li w (some ⟨g, 0, none⟩) c l) (hij : i < j) (hj : j ≤ l.length) (hn : l.length ≤ 4096) :
    Calls Tryz.prog 55 #[.slice (some ⟨g, 0, none⟩) l.length c, .int .i64 i, .int .i64 j] w fun e w' => e = .returned (.slice (some ⟨g, 0, none⟩) (l.take i ++ l.drop j).length c) ∧ Li w' (some ⟨g, 0, none⟩) c (l.take i ++ l.drop j) ∧ Kp (fun b => b = g) w w' := by
  obtain ⟨i0, hi0, hz0, hz1, hz2⟩ := info_parts infoIt
  obtain ⟨g', cur, hp, hr, hcs, hlc, hcm, ht⟩ := h.some (by omega)
  obtain rfl : g = g' := by injection hp with hp; injection hp
  obtain ⟨n, hnn⟩ : ∃ n, l.length = n := ⟨_, rfl⟩
  have hdl : (l.drop j).length = n - j := by rw [List.length_drop, hnn]
  have hrl : (l.take i ++ l.drop j).length = i + (n - j) := by rw [List.length_append, hdl, List.length_take]; omega
  have hov := (h.on (bdrew1 w)).over (by omega) i (l.drop j) (by omega) (by rw [hdl]; omega)
  obtain ⟨W1, hW1⟩ : ∃ W, w.drew.setCells g (i * 6) (its (l.drop j)) = W := ⟨_, rfl⟩
  rw [hW1] at hov
  have hrun : ∀ (ty : TypeId) (sc : Nat), j < n → (Builtin.append_ #[71, 71] ty #[.slice (some ⟨g, 0, none⟩) i c, .slice (some ⟨g, j * 6, none⟩) (n - j) sc]).run Tryz.prog w.drew = .ok (.slice (some ⟨g, 0, none⟩) (i + (n - j)) c) W1 := fun ty sc hlt => by
    have := run_append_room_src (P := Tryz.prog) w.drew 71 71 ty 35 i0 Tryz.underlying71 hi0 g 0 i c (.slice (some ⟨g, j * 6, none⟩) (n - j) sc) (n - j) (its (l.drop j)) (Src.ofSlice w.drew Tryz.underlying71 ⟨g, j * 6, none⟩ (n - j) sc (its (l.drop j)) (by rw [its_len, hdl, hz1]) (fun k u hk => by
      rw [Addr.add_lit]
      rw [← its_drop, List.getElem?_drop] at hk
      exact get_its hr ht hk) (its_one _)) (by omega) (fun k hk => by
      rw [its_len, hdl] at hk
      have : (w.cell? ⟨g, 0 + i * i0.size + k, none⟩).isSome = true := by
        rw [row_cell hr, hz1, Array.getElem?_eq_getElem (by omega)]
        rfl
      exact this) (fun k hk => row_frz hr _)
    rw [this, ← hW1, hz1, Nat.zero_add]
  have hrun0 : ∀ (ty : TypeId) (ad : Addr) (sc : Nat), (Builtin.append_ #[71, 71] ty #[.slice (some ⟨g, 0, none⟩) i c, .slice (some ad) 0 sc]).run Tryz.prog w.drew = .ok (.slice (some ⟨g, 0, none⟩) i c) w.drew := fun ty ad sc =>
    run_append_nothing (P := Tryz.prog) w.drew 71 71 ty 35 i0 Tryz.underlying71 hi0 (some ⟨g, 0, none⟩) i c (by omega) (.slice (some ad) 0 sc) (src0 w.drew Tryz.underlying71 ad sc)
  obtain ⟨vs, hcl⟩ := clearI hov (i + (n - j)) (j - i) (c - (i + (n - j))) (by omega) (by omega) 0
  have hbe := hov.behind (i + (n - j)) vs (by rw [hrl]; exact Nat.le_refl _)
  have HFIN := hid (show Li (W1.setCells g ((i + (n - j)) * 6) vs) (some ⟨g, 0, none⟩) c (l.take i ++ l.drop j) ∧ Kp (fun b => b = g) w (W1.setCells g ((i + (n - j)) * 6) vs) from ⟨hbe, by
    have k1 : Kp (fun b => b = g) w W1 := by rw [← hW1]; exact (Kp.of _ (bdrew1 w)).trans (setCells_kp g _ _ _) (fun _ _ h => h)
    exact k1.trans (setCells_kp g vs _ _) (fun _ _ h => h)⟩)
  have HRL := hid hrl
  have hWn : j = n → W1 = w.drew := fun e => by
    rw [← hW1]
    have : l.drop j = [] := List.drop_of_length_le (by omega)
    rw [this]
    rfl
  unfold maxLen at hcm
  rw [hnn] at hj hn hlc ⊢
  have z3 : ((i : Int) == (j : Int)) = false := by
    have : ¬ (i : Int) = (j : Int) := by omega
    simpa using this
  have b1 : (0 : Int) ≤ (i : Int) := by omega
  have b2 : (i : Int) ≤ (j : Int) := by omega
  have b3 : (j : Int) ≤ (n : Int) := by omega
  have b4 : (n : Int) ≤ (c : Int) := by omega
  have b5 : (j : Int) ≤ (c : Int) := by omega
  have b6 : (0 : Int) ≤ (j : Int) := by omega
  have b7 : (i : Int) ≤ (c : Int) := by omega
  by_cases hjn : j < n
  · have hap := fun ty sc => hrun ty sc hjn
    have c1 : ¬ c = j := by omega
    have c2 : ¬ c = i + (n - j) := by omega
    have c3 : ((i + (n - j) : Nat) : Int) ≤ (n : Int) := by omega
    have c4 : n - (i + (n - j)) = j - i := by omega
    obtain ⟨k, hk⟩ : ∃ k, i + (n - j) = k := ⟨_, rfl⟩
    rw [hk] at hap hcl HFIN HRL c2 c3 c4
    have c5 : (k : Int) ≤ (n : Int) := by omega
    have c6 : (0 : Int) ≤ (k : Int) := by omega
    clear h hp hr hcs ht hdl hrl hov hrun hrun0 hbe hWn hi0 hz0 hz1 hz2 hk hW1 hnn
    go_enter Tryz.func55, Tryz.ntmps55
    go_wp2
    go_region_law (refine step_append_known (by rfl) (.tmp 22) (.tmp 25) 71 71 (by rfl) (.slice (some ⟨g, 0, none⟩) i c) (.slice (some ⟨g, j * 6, none⟩) (n - j) (c - j)) (by simp [Act.eval, Act.put]) (by simp [Act.eval, Act.put]) (hap _ _) ?_)
    go_wp2
    go_ret
    exact ⟨by rw [HRL.out]; rfl, HFIN.out.1, HFIN.out.2⟩
  · obtain rfl : j = n := by omega
    have hw := hWn rfl
    have e0 : i + (j - j) = i := by omega
    rw [e0] at hcl HFIN HRL
    rw [hw] at hcl HFIN
    have c2 : ¬ c = i := by omega
    clear h hp hr hcs ht hdl hrl hov hrun hbe hWn hi0 hz0 hz1 hz2 hW1 hnn hw e0 hjn
    by_cases hcj : c = j
    · subst hcj
      go_enter Tryz.func55, Tryz.ntmps55
      go_wp2
      go_region_law (refine step_append_known (by rfl) (.tmp 22) (.tmp 25) 71 71 (by rfl) (.slice (some ⟨g, 0, none⟩) i c) _ (by simp [Act.eval, Act.put]) (by rfl) (hrun0 _ _ _) ?_)
      go_wp2
      go_ret
      exact ⟨by rw [HRL.out]; rfl, HFIN.out.1, HFIN.out.2⟩
    · go_enter Tryz.func55, Tryz.ntmps55
      go_wp2
      go_region_law (refine step_append_known (by rfl) (.tmp 22) (.tmp 25) 71 71 (by rfl) (.slice (some ⟨g, 0, none⟩) i c) _ (by simp [Act.eval, Act.put]) (by rfl) (hrun0 _ _ _) ?_)
      go_wp2
      go_ret
      exact ⟨by rw [HRL.out]; rfl, HFIN.out.1, HFIN.out.2⟩
end Go.Proofs.YtnmkfdndfhefiaaGreat
