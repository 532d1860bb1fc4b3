/-
  FhB
-/
import Derived.Test.YtojmcfkbekodpaaFhA
import Derived.Deep.RegionLaw
import Derived.Lib.AppendZerosOnto
import Derived.Lib.Overlaps
import Derived.Laws.Externs
import Derived.Laws.CopyRow
import Derived.Deep.AppendSrc
import Derived.Laws.NewBlocks
import Derived.Deep.Upon
namespace Go.Proofs.Ytojmcfkbekodpaa.Fd
open Go.RowKit Go.Deep Go.Shelf
set_option linter.unusedVariables false
set_option linter.unusedSimpArgs false
set_option maxHeartbeats 4000000
set_option maxRecDepth 100000
def spl (cur : Array Value) : Nat → List Value → Array Value
  | _, [] => cur
  | o, v :: r => spl (cur.setIfInBounds o v) (o + 1) r
theorem spl_size : ∀ (vs : List Value) (cur : Array Value) (o : Nat), (spl cur o vs).size = cur.size
  | [], _, _ => rfl
  | v :: r, cur, o => by show (spl (cur.setIfInBounds o v) (o + 1) r).size = _; rw [spl_size r]; simp
theorem spl_out : ∀ (vs : List Value) (cur : Array Value) (o j : Nat), (j < o ∨ o + vs.length ≤ j) → (spl cur o vs)[j]? = cur[j]?
  | [], _, _, _, _ => rfl
  | v :: r, cur, o, j, h => by
    show (spl (cur.setIfInBounds o v) (o + 1) r)[j]? = _
    simp only [List.length_cons] at h
    rw [spl_out r _ _ _ (by omega), Array.getElem?_setIfInBounds, if_neg (by omega)]
theorem spl_in : ∀ (vs : List Value) (cur : Array Value) (o j : Nat), j < vs.length → o + j < cur.size → (spl cur o vs)[o + j]? = vs[j]?
  | [], _, _, _, h, _ => by simp at h
  | v :: r, cur, o, 0, _, hs => by
    show (spl (cur.setIfInBounds o v) (o + 1) r)[o + 0]? = _
    rw [spl_out r _ _ _ (by omega), Nat.add_zero, Array.getElem?_setIfInBounds, if_pos rfl, if_pos (by omega)]
    rfl
  | v :: r, cur, o, j + 1, h, hs => by
    show (spl (cur.setIfInBounds o v) (o + 1) r)[o + (j + 1)]? = _
    have := spl_in r (cur.setIfInBounds o v) (o + 1) j (by simpa using h) (by simp; omega)
    rw [show o + (j + 1) = o + 1 + j by omega, this]
    rfl
theorem setCells_row {g : Nat} {t : TypeId} : ∀ (vs : List Value) (o : Nat) (w : World) (cur : Array Value), w.heap[g]? = some (.cells cur t (0, 0)) → (w.setCells g o vs).heap[g]? = some (.cells (spl cur o vs) t (0, 0))
  | [], _, _, _, h => h
  | v :: r, o, w, cur, h => by
    show ((w.setCell ⟨g, o, none⟩ v).setCells g (o + 1) r).heap[g]? = _
    rw [setCells_row r (o + 1) _ (cur.setIfInBounds o v) (heap_setCell_same w g o cur t v h)]
    rfl
theorem setCells_kp (G : Nat) : ∀ (vs : List Value) (o : Nat) (w : World), Kp (fun j => j = G) w (w.setCells G o vs)
  | [], _, w => Kp.refl _ _
  | v :: r, o, w => (Kp.set w G o v).trans (setCells_kp G r (o + 1) _) (fun _ _ h => h)
theorem own_ext {base : Nat} {w : World} {e : TypeId} {size g k c : Nat} {cur : Array Value} {xs : List Value} (hb : base ≤ g) (hr : w.heap[g]? = some (.cells cur e (0, 0))) (hk : k ≤ c) (hc : c ≤ maxLen) (hs : cur.size = c * size) (hl : xs.length = k * size) (hx : ∀ j, j < k * size → cur[j]? = xs[j]?) : w.ownsRow base e size (.slice (some ⟨g, 0, none⟩) k c) k xs := by
  refine ⟨hl, .inr ⟨g, c, cur, rfl, hb, hr, hk, hc, hs, ?_⟩⟩
  apply List.ext_getElem?
  intro j
  rw [List.getElem?_take, Array.getElem?_toList]
  by_cases hj : j < k * size
  · rw [if_pos hj, hx j hj]
  · rw [if_neg hj, List.getElem?_eq_none (by omega)]
theorem lvc_at {l : List Lv} {j : Nat} (hj : j < l.length * 3) : (lvc l)[j]? = (lrow (l[j / 3]'(by omega))).toList[j % 3]? := by
  obtain ⟨a, b, c⟩ := lvc_get (l := l) (i := j / 3) (by omega)
  obtain ⟨q, hq⟩ : ∃ q, j % 3 = q := ⟨_, rfl⟩
  have e : j = j / 3 * 3 + q := by omega
  have hq3 : q < 3 := by omega
  rw [hq]
  conv => lhs; rw [e]
  rcases q with _ | _ | _ | q
  · exact a
  · exact b
  · exact c
  · omega
theorem Lo.curAt {l : List Lv} {cur : Array Value} (ht : cur.toList.take (l.length * 3) = lvc l) {j : Nat} (hj : j < l.length * 3) : cur[j]? = (lvc l)[j]? := by
  have := congrArg (fun z => z[j]?) ht
  simpa only [List.getElem?_take, hj, if_true, Array.getElem?_toList] using this
/-- other interests are laid over a list from a place on. -/
theorem Lo.over {w : World} {g c : Nat} {l : List Lv} (h : Lo 0 w (Option.some ⟨g, 0, none⟩) c l) (h0 : 0 < l.length) (i : Nat) (m : List Lv) (hi : i ≤ l.length) (hc : i + m.length ≤ c) : Lo 0 (w.setCells g (i * 3) (lvc m)) (Option.some ⟨g, 0, none⟩) c (l.take i ++ m) := by
  obtain ⟨g', cur, e, hr, hs, hlc, hcm, ht⟩ := h.atL h0
  injection e with e
  injection e with e
  subst e
  have hl : (l.take i ++ m).length = i + m.length := by simp; omega
  unfold Lo
  rw [hl]
  have htk : ((lvc l).take (i * 3)).length = i * 3 := by rw [List.length_take, lvc_len]; omega
  refine own_ext (Nat.zero_le _) (setCells_row _ _ _ _ hr) hc hcm (by rw [spl_size]; exact hs) (by rw [lvc_len, hl]) (fun j hj => ?_)
  rw [lvc_app, ← lvT]
  by_cases hj2 : j < i * 3
  · rw [spl_out _ _ _ _ (.inl hj2), List.getElem?_append_left (by omega), List.getElem?_take, if_pos hj2]
    exact Lo.curAt ht (by omega)
  · have := spl_in (lvc m) cur (i * 3) (j - i * 3) (by rw [lvc_len]; omega) (by rw [hs]; omega)
    rw [show i * 3 + (j - i * 3) = j by omega] at this
    rw [this, List.getElem?_append_right (by omega), htk]
/-- what is written behind a list leaves it alone. -/
theorem Lo.behind {w : World} {g c : Nat} {L : List Lv} (h : Lo 0 w (Option.some ⟨g, 0, none⟩) c L) (k : Nat) (vs : List Value) (hk : L.length ≤ k) : Lo 0 (w.setCells g (k * 3) vs) (Option.some ⟨g, 0, none⟩) c L := by
  obtain ⟨h1, ⟨e, e2⟩ | ⟨g', c', cur, e, r1, r2, r3, r4, r5, r6⟩⟩ := h
  · cases (Value.slice.inj e).1
  · obtain ⟨e1, _, e3⟩ := Value.slice.inj e
    injection e1 with e1
    injection e1 with e1
    subst e1
    subst e3
    refine own_ext (Nat.zero_le _) (setCells_row _ _ _ _ r2) r3 r4 (by rw [spl_size]; exact r5) (lvc_len L) (fun j hj => ?_)
    rw [spl_out _ _ _ _ (.inl (by omega))]
    exact Lo.curAt r6 hj
theorem clearL {w : World} {g c : Nat} {L : List Lv} (h : Lo 0 w (some ⟨g, 0, none⟩) c L) (o k cc : Nat) (hk : 0 < k) (ho : o + k ≤ c) (ty : TypeId) : ∃ vs, (Builtin.clear_ #[42] ty #[.slice (some ⟨g, o * 3, none⟩) k cc]).run Try.prog w = .ok (.tuple #[]) (w.setCells g (o * 3) vs) := by
  obtain ⟨h1, ⟨e, e2⟩ | ⟨g', c', cur, e, r1, hr, r3, r4, hs, r6⟩⟩ := h
  · cases (Value.slice.inj e).1
  obtain ⟨e1, _, e3⟩ := Value.slice.inj e
  injection e1 with e1
  injection e1 with e1
  subst e1
  subst e3
  obtain ⟨k', rfl⟩ : ∃ k', k = k' + 1 := ⟨k - 1, by omega⟩
  have hzl : (Builtin.zeroCells (Value.agg #[.int .i64 0, .int .u64 0, .int .i64 0]).cells (k' + 1)).toList.length = (k' + 1) * 3 := by simp [Builtin.zeroCells, Value.cells]
  have hz1 : ∀ v ∈ (Builtin.zeroCells (Value.agg #[.int .i64 0, .int .u64 0, .int .i64 0]).cells (k' + 1)).toList, v.oneCell' = true := by
    intro v hv
    simp only [Builtin.zeroCells, Value.cells] at hv
    rw [Array.mem_toList_iff, Array.mem_map] at hv
    obtain ⟨k, _, rfl⟩ := hv
    have hk : k % 3 < 3 := Nat.mod_lt _ (by omega)
    obtain ⟨q, hq⟩ : ∃ q, k % 3 = q := ⟨_, rfl⟩
    simp only [List.size_toArray, List.length_cons, List.length_nil, Nat.zero_add]
    rw [show k % (0 + 1 + 1 + 1) = q from hq]
    rw [hq] at hk
    rcases q with _ | _ | _ | q
    · rfl
    · rfl
    · rfl
    · omega
  refine ⟨(Builtin.zeroCells (Value.agg #[.int .i64 0, .int .u64 0, .int .i64 0]).cells (k' + 1)).toList, ?_⟩
  have hst := run_storeCells_cells (P := Try.prog) g (o * 3) (Builtin.zeroCells (Value.agg #[.int .i64 0, .int .u64 0, .int .i64 0]).cells (k' + 1)).toList 0 w (fun j hj => by
    rw [hzl] at hj
    rw [row_cell hr, Nat.add_zero, Array.getElem?_eq_getElem (by rw [hs]; omega)]
    rfl) (fun j hj => row_frz hr _) hz1
  simp only [Nat.add_zero] at hst
  have hv := Try.zeroValue71
  simp [Builtin.clear_, run_underlying Try.underlying42, hv, hst]
section
variable {P : Program}
/-- an append whose run is known, in a region that draws lvc order. -/
theorem step_append_known {ops : Array Oper} {o : Oper} {a : Act} {w : World} {K : Act → World → Prop} {Q : Exit → Act → World → Prop} {E : Prop} (hg : o.guard = none) (d x : Operand) (dT sT : TypeId)
    (ho : o.op = .call { callee := .builtin .append, args := #[d, x], argTypes := #[dT, sT] }) (v u : Value) (hd : a.eval d = v) (hx : a.eval x = u) {v' : Value} {w' : World} (hr : (Builtin.append_ #[dT, sT] o.type #[v, u]).run P w = .ok v' w') (hK : K (a.put o.dst v') w') :
    if Region.wanted o (yielded ops a.tmps) = true then Oper.wp P o a w K Q else E := by
  rw [if_pos (by simp [Region.wanted, hg])]
  unfold Oper.wp
  simp [execOp, ho, resolve, invoke, builtin, hd, hx, hr, Result.andThen]
  exact hK
theorem src0 (w : World) {size : Nat} {t e : TypeId} (hk : P.underlying t = some (.slice e)) (ad : Addr) (c : Nat) : Src P size t (.slice (some ad) 0 c) 0 [] w :=
  Src.ofSlice w hk ad 0 c [] (by simp) (by simp) (by simp)
end
theorem delete_any (g c : Nat) (l : List Lv) (i j : Nat) (w : World) (h : Lo 0 w (some ⟨g, 0, none⟩) c l) (hij : i < j) (hj : j ≤ l.length) (hn : l.length ≤ 262144) :
    Calls Try.prog 81 #[.slice (some ⟨g, 0, none⟩) l.length c, .int .i64 i, .int .i64 j] w fun e w' => e = .returned (.slice (some ⟨g, 0, none⟩) (l.take i ++ l.drop j).length c) ∧ Lo 0 w' (some ⟨g, 0, none⟩) c (l.take i ++ l.drop j) ∧ Kp (fun b => b = g) w w' := by
  obtain ⟨i0, hi0, hz0, hz1, hz2⟩ := info_parts infoL3
  obtain ⟨g', cur, hp, hr, hcs, hlc, hcm, ht⟩ := h.atL (by omega)
  obtain rfl : g = g' := by injection hp with hp; injection hp
  obtain ⟨n, hnn⟩ : ∃ n, l.length = n := ⟨_, rfl⟩
  have hdl : (l.drop j).length = n - j := by rw [List.length_drop, hnn]
  have hrl : (l.take i ++ l.drop j).length = i + (n - j) := by rw [List.length_append, hdl, List.length_take]; omega
  have hov := (h.on (bdrew1 w)).over (by omega) i (l.drop j) (by omega) (by rw [hdl]; omega)
  obtain ⟨W1, hW1⟩ : ∃ W, w.drew.setCells g (i * 3) (lvc (l.drop j)) = W := ⟨_, rfl⟩
  rw [hW1] at hov
  have hrun : ∀ (ty : TypeId) (sc : Nat), j < n → (Builtin.append_ #[42, 42] ty #[.slice (some ⟨g, 0, none⟩) i c, .slice (some ⟨g, j * 3, none⟩) (n - j) sc]).run Try.prog w.drew = .ok (.slice (some ⟨g, 0, none⟩) (i + (n - j)) c) W1 := fun ty sc hlt => by
    have := run_append_room_src (P := Try.prog) w.drew 42 42 ty 71 i0 Try.underlying42 hi0 g 0 i c (.slice (some ⟨g, j * 3, none⟩) (n - j) sc) (n - j) (lvc (l.drop j)) (Src.ofSlice w.drew Try.underlying42 ⟨g, j * 3, none⟩ (n - j) sc (lvc (l.drop j)) (by rw [lvc_len, hdl, hz1]) (fun k u hk => by
      rw [Addr.add_lit]
      rw [← lvDr, List.getElem?_drop] at hk
      exact get_lvc hr ht hk) (lvc_one _)) (by omega) (fun k hk => by
      rw [lvc_len, hdl] at hk
      have : (w.cell? ⟨g, 0 + i * i0.size + k, none⟩).isSome = true := by
        rw [row_cell hr, hz1, Array.getElem?_eq_getElem (by omega)]
        rfl
      exact this) (fun k hk => row_frz hr _)
    rw [this, ← hW1, hz1, Nat.zero_add]
  have hrun0 : ∀ (ty : TypeId) (ad : Addr) (sc : Nat), (Builtin.append_ #[42, 42] ty #[.slice (some ⟨g, 0, none⟩) i c, .slice (some ad) 0 sc]).run Try.prog w.drew = .ok (.slice (some ⟨g, 0, none⟩) i c) w.drew := fun ty ad sc =>
    run_append_nothing (P := Try.prog) w.drew 42 42 ty 71 i0 Try.underlying42 hi0 (some ⟨g, 0, none⟩) i c (by omega) (.slice (some ad) 0 sc) (src0 w.drew Try.underlying42 ad sc)
  obtain ⟨vs, hcl⟩ := clearL hov (i + (n - j)) (j - i) (c - (i + (n - j))) (by omega) (by omega) 0
  have hbe := hov.behind (i + (n - j)) vs (by rw [hrl]; exact Nat.le_refl _)
  have HFIN := hid (show Lo 0 (W1.setCells g ((i + (n - j)) * 3) vs) (some ⟨g, 0, none⟩) c (l.take i ++ l.drop j) ∧ Kp (fun b => b = g) w (W1.setCells g ((i + (n - j)) * 3) vs) from ⟨hbe, by
    have k1 : Kp (fun b => b = g) w W1 := by rw [← hW1]; exact (Kp.of _ (bdrew1 w)).trans (setCells_kp g _ _ _) (fun _ _ h => h)
    exact k1.trans (setCells_kp g vs _ _) (fun _ _ h => h)⟩)
  have HRL := hid hrl
  have hWn : j = n → W1 = w.drew := fun e => by
    rw [← hW1]
    have : l.drop j = [] := List.drop_of_length_le (by omega)
    rw [this]
    rfl
  unfold maxLen at hcm
  rw [hnn] at hj hn hlc ⊢
  have z3 : ((i : Int) == (j : Int)) = false := by
    have : ¬ (i : Int) = (j : Int) := by omega
    simpa using this
  have b1 : (0 : Int) ≤ (i : Int) := by omega
  have b2 : (i : Int) ≤ (j : Int) := by omega
  have b3 : (j : Int) ≤ (n : Int) := by omega
  have b4 : (n : Int) ≤ (c : Int) := by omega
  have b5 : (j : Int) ≤ (c : Int) := by omega
  have b6 : (0 : Int) ≤ (j : Int) := by omega
  have b7 : (i : Int) ≤ (c : Int) := by omega
  by_cases hjn : j < n
  · have hap := fun ty sc => hrun ty sc hjn
    have c1 : ¬ c = j := by omega
    have c2 : ¬ c = i + (n - j) := by omega
    have c3 : ((i + (n - j) : Nat) : Int) ≤ (n : Int) := by omega
    have c4 : n - (i + (n - j)) = j - i := by omega
    obtain ⟨k, hk⟩ : ∃ k, i + (n - j) = k := ⟨_, rfl⟩
    rw [hk] at hap hcl HFIN HRL c2 c3 c4
    have c5 : (k : Int) ≤ (n : Int) := by omega
    have c6 : (0 : Int) ≤ (k : Int) := by omega
    clear h hp hr hcs ht hdl hrl hov hrun hrun0 hbe hWn hi0 hz0 hz1 hz2 hk hW1 hnn
    go_enter Try.func81, Try.ntmps81
    go_wp2
    go_region_law (refine step_append_known (by rfl) (.tmp 22) (.tmp 25) 42 42 (by rfl) (.slice (some ⟨g, 0, none⟩) i c) (.slice (some ⟨g, j * 3, none⟩) (n - j) (c - j)) (by simp [Act.eval, Act.put]) (by simp [Act.eval, Act.put]) (hap _ _) ?_)
    go_wp2
    go_ret
    exact ⟨by rw [HRL.out]; rfl, HFIN.out.1, HFIN.out.2⟩
  · obtain rfl : j = n := by omega
    have hw := hWn rfl
    have e0 : i + (j - j) = i := by omega
    rw [e0] at hcl HFIN HRL
    rw [hw] at hcl HFIN
    have c2 : ¬ c = i := by omega
    clear h hp hr hcs ht hdl hrl hov hrun hbe hWn hi0 hz0 hz1 hz2 hW1 hnn hw e0 hjn
    by_cases hcj : c = j
    · subst hcj
      go_enter Try.func81, Try.ntmps81
      go_wp2
      go_region_law (refine step_append_known (by rfl) (.tmp 22) (.tmp 25) 42 42 (by rfl) (.slice (some ⟨g, 0, none⟩) i c) _ (by simp [Act.eval, Act.put]) (by rfl) (hrun0 _ _ _) ?_)
      go_wp2
      go_ret
      exact ⟨by rw [HRL.out]; rfl, HFIN.out.1, HFIN.out.2⟩
    · go_enter Try.func81, Try.ntmps81
      go_wp2
      go_region_law (refine step_append_known (by rfl) (.tmp 22) (.tmp 25) 42 42 (by rfl) (.slice (some ⟨g, 0, none⟩) i c) _ (by simp [Act.eval, Act.put]) (by rfl) (hrun0 _ _ _) ?_)
      go_wp2
      go_ret
      exact ⟨by rw [HRL.out]; rfl, HFIN.out.1, HFIN.out.2⟩
end Go.Proofs.Ytojmcfkbekodpaa.Fd
