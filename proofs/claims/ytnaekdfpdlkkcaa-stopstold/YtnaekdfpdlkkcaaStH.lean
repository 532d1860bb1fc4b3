/-
  A stop order is taken out; what waits is told.
-/
import Derived.Test.YtnaekdfpdlkkcaaStG
import Derived.Deep.Upon
import Derived.Lib.SliceRun
namespace Go.Proofs.Ytnaekdfpdlkkcaa
open Go.RowKit Go.Deep Go.Shelf
set_option linter.unusedVariables false
set_option linter.unusedSimpArgs false
set_option maxHeartbeats 4000000
set_option maxRecDepth 100000
attribute [local go_sem ↓] Go.wp_at_zero Go.wp_at_succ
section
variable {P : Program}
theorem src0 (w : World) {size : Nat} {t e : TypeId} (hk : P.underlying t = some (.slice e)) (ad : Addr) (c : Nat) : Src P size t (.slice (some ad) 0 c) 0 [] w :=
  Src.ofSlice w hk ad 0 c [] (by simp) (by simp) (by simp)
theorem wp_app0 {w : World} {o : Oper} {a : Act} {K : Act → World → Prop} {Q : Exit → Act → World → Prop} (s x : Operand) (t : TypeId)
    (ho : o.op = .call { callee := .builtin .append, args := #[s, x], argTypes := #[t, t] }) (e : TypeId) (i : TypeInfo) (ht : P.underlying t = some (.slice e)) (hi : P.info? e = some i)
    (base : Option Addr) (n c : Nat) (hle : n ≤ c) (hs : a.eval s = .slice base n c) (ad : Addr) (d : Nat) (hx : a.eval x = .slice (some ad) 0 d)
    (h : K (a.put o.dst (.slice base n c)) w) : Oper.wp P o a w K Q := by
  have hrun := run_append_nothing (P := P) w t t o.type e i ht hi base n c hle (.slice (some ad) 0 d) (src0 w ht ad d)
  unfold Oper.wp
  simp [execOp, ho, resolve, invoke, builtin, hs, hx, hrun, Result.andThen]
  exact h
theorem wpList_app0 {w : World} {ops : Array Oper} {rest : List Oper} {o : Oper} {a : Act} {Q : Exit → Act → World → Prop} (hgd : o.guard = none) (s x : Operand) (t : TypeId)
    (ho : o.op = .call { callee := .builtin .append, args := #[s, x], argTypes := #[t, t] }) (e : TypeId) (i : TypeInfo) (ht : P.underlying t = some (.slice e)) (hi : P.info? e = some i)
    (base : Option Addr) (n c : Nat) (hle : n ≤ c) (hs : a.eval s = .slice base n c) (ad : Addr) (d : Nat) (hx : a.eval x = .slice (some ad) 0 d)
    (h : wpList P ops Q rest (a.put o.dst (.slice base n c)) w) : wpList P ops Q (o :: rest) a w :=
  wpList_plain hgd fun _ hK => wp_app0 s x t ho e i ht hi base n c hle hs ad d hx (hK _ _ h)
theorem step_app0 {w : World} {ops : Array Oper} {o : Oper} {a : Act} {K : Act → World → Prop} {Q : Exit → Act → World → Prop} {E : Prop} (hgd : o.guard = none) (s x : Operand) (t : TypeId)
    (ho : o.op = .call { callee := .builtin .append, args := #[s, x], argTypes := #[t, t] }) (e : TypeId) (i : TypeInfo) (ht : P.underlying t = some (.slice e)) (hi : P.info? e = some i)
    (base : Option Addr) (n c : Nat) (hle : n ≤ c) (hs : a.eval s = .slice base n c) (ad : Addr) (d : Nat) (hx : a.eval x = .slice (some ad) 0 d)
    (h : K (a.put o.dst (.slice base n c)) w) : if Region.wanted o (yielded ops a.tmps) = true then Oper.wp P o a w K Q else E := by
  have hw : Region.wanted o (yielded ops a.tmps) = true := by simp [Region.wanted, hgd]
  rw [if_pos hw]
  exact wp_app0 s x t ho e i ht hi base n c hle hs ad d hx h
end
theorem setCells_kp (G : Nat) : ∀ (vs : List Value) (o : Nat) (w : World), Kp (fun j => j = G) w (w.setCells G o vs)
  | [], _, w => Kp.refl _ _
  | v :: r, o, w => (Kp.set w G o v).trans (setCells_kp G r (o + 1) _) (fun _ _ h => h)
theorem clear1 {w : World} {G gc c : Nat} {x : Sp} (h : Lz w G gc x) (ty : TypeId) : (Builtin.clear_ #[39] ty #[.slice (some ⟨G, 0, none⟩) 1 c]).run Try.prog w = .ok (.tuple #[]) (w.setCells G 0 (#[.int .u64 0, .int .u32 0, .int .i64 0, .int .i64 0, .int .i64 0, .int .i64 0, .int .u64 0, .int .u64 0] : Array Value).toList) := by
  obtain ⟨cur, h1, h2, h3, h4, h5⟩ := h
  have hzc : (Builtin.zeroCells (Value.agg #[.int .u64 0, .int .u32 0, .int .i64 0, .int .i64 0, .int .i64 0, .int .i64 0, .int .u64 0, .int .u64 0]).cells 1).toList = (#[.int .u64 0, .int .u32 0, .int .i64 0, .int .i64 0, .int .i64 0, .int .i64 0, .int .u64 0, .int .u64 0] : Array Value).toList := by first | rfl | kernel_rfl | simp [Builtin.zeroCells, Value.cells]
  have hst := run_storeCells_cells (P := Try.prog) G 0 (#[.int .u64 0, .int .u32 0, .int .i64 0, .int .i64 0, .int .i64 0, .int .i64 0, .int .u64 0, .int .u64 0] : Array Value).toList 0 w (fun j hj => by
    rw [row_cell h1]
    have hj' : j < 8 := hj
    simp only [Nat.zero_add]
    rw [Array.getElem?_eq_getElem (by omega)]
    rfl) (fun j hj => row_frz h1 _) (by
    intro v hv
    simp only [List.mem_cons, List.not_mem_nil, or_false] at hv
    rcases hv with rfl | rfl | rfl | rfl | rfl | rfl | rfl | rfl <;> rfl)
  simp only [Nat.add_zero] at hst
  have hv := Try.zeroValue27
  simp [Builtin.clear_, run_underlying Try.underlying39, hv, hzc, hst]
theorem delete_1 (G : Nat) (x : Sp) (w : World) (h : Lz w G 1 x) :
    Calls Try.prog 26 #[.slice (some ⟨G, 0, none⟩) 1 1, .int .i64 0, .int .i64 1] w fun e w' => e = .returned (.slice (some ⟨G, 0, none⟩) 0 1) ∧ Kp (fun j => j = G) w w' := by
  have HH := hid h
  have HCL := hid (fun (U : World) (hU : Below w.heap.size w U) (ty : TypeId) => clear1 (c := 1) (h.on hU) ty)
  obtain ⟨i0, hi, hz0, hz1, hz2⟩ := info_parts info27all
  have HI := hid hi
  clear hi hz0 hz1 hz2 h
  go_enter Try.func26, Try.ntmps26
  go_upto_region 5 with fail
  obtain ⟨Y0, hY0⟩ : ∃ X, w.drew = X := ⟨_, rfl⟩
  have HE0 := hid (show Below w.heap.size w Y0 from by rw [← hY0]; exact bdrew1 _)
  refine wp_region_held_drew (S := (fun _ => True)) (by kernel_rfl) ?_ (fun hHeld => ?_)
  · (try dsimp only); (first | done | trivial)
  rw [hY0]
  clear hY0
  refine' wpAnyH_take (i := 0) (oi := _) (v := _) rfl (by kernel_rfl) (by kernel_rfl) (by kernel_rfl) (fun _ _ _ h => h) (Or.inl ⟨by kernel_rfl, ?_⟩) (by assumption) ?_
  rotate_left
  · (intro w hSw; (try dsimp only at hSw); go_simp; try (with_reducible rfl))
  try simp only [List.getElem_toArray, List.getElem_cons_succ, List.getElem_cons_zero, Act.put, List.setIfInBounds_toArray, List.set_cons_zero, List.set_cons_succ]
  refine' wpAnyH_take (i := 1) (oi := _) (v := _) rfl (by kernel_rfl) (by kernel_rfl) (by kernel_rfl) (fun _ _ _ h => h) (Or.inl ⟨by kernel_rfl, ?_⟩) (by assumption) ?_
  rotate_left
  · (intro w hSw; (try dsimp only at hSw); go_simp; try (with_reducible rfl))
  try simp only [List.getElem_toArray, List.getElem_cons_succ, List.getElem_cons_zero, Act.put, List.setIfInBounds_toArray, List.set_cons_zero, List.set_cons_succ]
  refine' wpAnyH_take (i := 2) (oi := _) (v := _) rfl (by kernel_rfl) (by kernel_rfl) (by kernel_rfl) (fun _ _ _ h => h) (Or.inl ⟨by kernel_rfl, ?_⟩) (by assumption) ?_
  rotate_left
  · (intro w hSw; (try dsimp only at hSw); go_simp; try (with_reducible rfl))
  try simp only [List.getElem_toArray, List.getElem_cons_succ, List.getElem_cons_zero, Act.put, List.setIfInBounds_toArray, List.set_cons_zero, List.set_cons_succ]
  refine' wpAnyH_take (i := 3) (oi := _) (v := _) rfl (by kernel_rfl) (by kernel_rfl) (by kernel_rfl) (fun _ _ _ h => h) (Or.inl ⟨by kernel_rfl, ?_⟩) (by assumption) ?_
  rotate_left
  · (intro w hSw; (try dsimp only at hSw); go_simp; try (with_reducible rfl))
  try simp only [List.getElem_toArray, List.getElem_cons_succ, List.getElem_cons_zero, Act.put, List.setIfInBounds_toArray, List.set_cons_zero, List.set_cons_succ]
  refine' wpAnyH_take (i := 4) (oi := _) (v := _) rfl (by kernel_rfl) (by kernel_rfl) (by kernel_rfl) (fun _ _ _ h => h) (Or.inl ⟨by kernel_rfl, ?_⟩) (by assumption) ?_
  rotate_left
  · (intro w hSw; (try dsimp only at hSw); go_simp; try (with_reducible rfl))
  try simp only [List.getElem_toArray, List.getElem_cons_succ, List.getElem_cons_zero, Act.put, List.setIfInBounds_toArray, List.set_cons_zero, List.set_cons_succ]
  refine' wpAnyH_take (i := 5) (oi := _) (v := _) rfl (by kernel_rfl) (by kernel_rfl) (by kernel_rfl) (fun _ _ _ h => h) (Or.inl ⟨by kernel_rfl, ?_⟩) (by assumption) ?_
  rotate_left
  · (intro w hSw; (try dsimp only at hSw); go_simp; try (with_reducible rfl))
  try simp only [List.getElem_toArray, List.getElem_cons_succ, List.getElem_cons_zero, Act.put, List.setIfInBounds_toArray, List.set_cons_zero, List.set_cons_succ]
  refine wpAnyH_ready (rs := [6]) (by kernel_rfl) (by simp) ?_
  refine AllReadyH.cons (o := _) rfl (fun KK hK => ?_) AllReadyH.nil
  refine step_app0 (by rfl) (.tmp 22) (.tmp 25) 39 (by rfl) 27 i0 Try.underlying39 HI.out (some ⟨G, 0, none⟩) 0 1 (Nat.zero_le _) (by rfl) _ _ (by rfl) ?_
  refine hK.out _ _ ?_ (fun hHeld => ?_)
  · (first | done | trivial)
  clear hK
  try simp only [List.getElem_toArray, List.getElem_cons_succ, List.getElem_cons_zero, Act.put, List.setIfInBounds_toArray, List.set_cons_zero, List.set_cons_succ]
  refine' wpAnyH_take (i := 7) (oi := _) (v := _) rfl (by kernel_rfl) (by kernel_rfl) (by kernel_rfl) (fun _ _ _ h => h) (Or.inl ⟨by kernel_rfl, ?_⟩) (by assumption) ?_
  rotate_left
  · (intro w hSw; (try dsimp only at hSw); go_simp; try (with_reducible rfl))
  try simp only [List.getElem_toArray, List.getElem_cons_succ, List.getElem_cons_zero, Act.put, List.setIfInBounds_toArray, List.set_cons_zero, List.set_cons_succ]
  refine wpAnyH_done (by kernel_rfl) ?_ _
  clear hHeld
  have hcl := HCL.out Y0 HE0.out
  go_wp2
  go_ret
  exact ⟨rfl, (Kp.of _ HE0.out).trans (setCells_kp G _ 0 Y0) (fun _ _ h => h)⟩
theorem delete_n (G gc : Nat) (x : Sp) (w : World) (h : Lz w G gc x) (h1 : 1 < gc) :
    Calls Try.prog 26 #[.slice (some ⟨G, 0, none⟩) 1 gc, .int .i64 0, .int .i64 1] w fun e w' => e = .returned (.slice (some ⟨G, 0, none⟩) 0 gc) ∧ Kp (fun j => j = G) w w' := by
  have hgm : gc < 9223372036854775808 := by obtain ⟨cur, _, _, h3, _⟩ := h; unfold maxLen at h3; omega
  have hg1 : ¬ gc = 1 := by omega
  have hg2 : (1 : Int) ≤ (gc : Int) := by omega
  have HH := hid h
  have HCL := hid (fun (U : World) (hU : Below w.heap.size w U) (ty : TypeId) => clear1 (c := gc) (h.on hU) ty)
  obtain ⟨i0, hi, hz0, hz1, hz2⟩ := info_parts info27all
  have HI := hid hi
  clear hi hz0 hz1 hz2 h
  go_enter Try.func26, Try.ntmps26
  go_upto_region 5 with fail
  obtain ⟨Y0, hY0⟩ : ∃ X, w.drew = X := ⟨_, rfl⟩
  have HE0 := hid (show Below w.heap.size w Y0 from by rw [← hY0]; exact bdrew1 _)
  refine wp_region_held_drew (S := (fun _ => True)) (by kernel_rfl) ?_ (fun hHeld => ?_)
  · (try dsimp only); (first | done | trivial)
  rw [hY0]
  clear hY0
  refine' wpAnyH_take (i := 0) (oi := _) (v := _) rfl (by kernel_rfl) (by kernel_rfl) (by kernel_rfl) (fun _ _ _ h => h) (Or.inl ⟨by kernel_rfl, ?_⟩) (by assumption) ?_
  rotate_left
  · (intro w hSw; (try dsimp only at hSw); go_simp; try (with_reducible rfl))
  try simp only [List.getElem_toArray, List.getElem_cons_succ, List.getElem_cons_zero, Act.put, List.setIfInBounds_toArray, List.set_cons_zero, List.set_cons_succ]
  refine' wpAnyH_take (i := 1) (oi := _) (v := _) rfl (by kernel_rfl) (by kernel_rfl) (by kernel_rfl) (fun _ _ _ h => h) (Or.inl ⟨by kernel_rfl, ?_⟩) (by assumption) ?_
  rotate_left
  · (intro w hSw; (try dsimp only at hSw); go_simp; try (with_reducible rfl))
  try simp only [List.getElem_toArray, List.getElem_cons_succ, List.getElem_cons_zero, Act.put, List.setIfInBounds_toArray, List.set_cons_zero, List.set_cons_succ]
  refine' wpAnyH_take (i := 2) (oi := _) (v := _) rfl (by kernel_rfl) (by kernel_rfl) (by kernel_rfl) (fun _ _ _ h => h) (Or.inl ⟨by kernel_rfl, ?_⟩) (by assumption) ?_
  rotate_left
  · (intro w hSw; (try dsimp only at hSw); go_simp; try (with_reducible rfl))
  try simp only [List.getElem_toArray, List.getElem_cons_succ, List.getElem_cons_zero, Act.put, List.setIfInBounds_toArray, List.set_cons_zero, List.set_cons_succ]
  refine' wpAnyH_take (i := 3) (oi := _) (v := _) rfl (by kernel_rfl) (by kernel_rfl) (by kernel_rfl) (fun _ _ _ h => h) (Or.inl ⟨by kernel_rfl, ?_⟩) (by assumption) ?_
  rotate_left
  · (intro w hSw; (try dsimp only at hSw); go_simp; try (with_reducible rfl))
  try simp only [List.getElem_toArray, List.getElem_cons_succ, List.getElem_cons_zero, Act.put, List.setIfInBounds_toArray, List.set_cons_zero, List.set_cons_succ]
  refine' wpAnyH_take (i := 4) (oi := _) (v := _) rfl (by kernel_rfl) (by kernel_rfl) (by kernel_rfl) (fun _ _ _ h => h) (Or.inl ⟨by kernel_rfl, ?_⟩) (by assumption) ?_
  rotate_left
  · (intro w hSw; (try dsimp only at hSw); go_simp; try (with_reducible rfl))
  try simp only [List.getElem_toArray, List.getElem_cons_succ, List.getElem_cons_zero, Act.put, List.setIfInBounds_toArray, List.set_cons_zero, List.set_cons_succ]
  refine' wpAnyH_take (i := 5) (oi := _) (v := _) rfl (by kernel_rfl) (by kernel_rfl) (by kernel_rfl) (fun _ _ _ h => h) (Or.inl ⟨by kernel_rfl, ?_⟩) (by assumption) ?_
  rotate_left
  · (intro w hSw; (try dsimp only at hSw); go_simp; try (with_reducible rfl))
  try simp only [List.getElem_toArray, List.getElem_cons_succ, List.getElem_cons_zero, Act.put, List.setIfInBounds_toArray, List.set_cons_zero, List.set_cons_succ]
  refine wpAnyH_ready (rs := [6]) (by kernel_rfl) (by simp) ?_
  refine AllReadyH.cons (o := _) rfl (fun KK hK => ?_) AllReadyH.nil
  refine step_app0 (by rfl) (.tmp 22) (.tmp 25) 39 (by rfl) 27 i0 Try.underlying39 HI.out (some ⟨G, 0, none⟩) 0 gc (Nat.zero_le _) (by rfl) _ _ (by rfl) ?_
  refine hK.out _ _ ?_ (fun hHeld => ?_)
  · (first | done | trivial)
  clear hK
  try simp only [List.getElem_toArray, List.getElem_cons_succ, List.getElem_cons_zero, Act.put, List.setIfInBounds_toArray, List.set_cons_zero, List.set_cons_succ]
  refine' wpAnyH_take (i := 7) (oi := _) (v := _) rfl (by kernel_rfl) (by kernel_rfl) (by kernel_rfl) (fun _ _ _ h => h) (Or.inl ⟨by kernel_rfl, ?_⟩) (by assumption) ?_
  rotate_left
  · (intro w hSw; (try dsimp only at hSw); go_simp; try (with_reducible rfl))
  try simp only [List.getElem_toArray, List.getElem_cons_succ, List.getElem_cons_zero, Act.put, List.setIfInBounds_toArray, List.set_cons_zero, List.set_cons_succ]
  refine wpAnyH_done (by kernel_rfl) ?_ _
  clear hHeld
  have hcl := HCL.out Y0 HE0.out
  go_wp2
  go_ret
  exact ⟨rfl, (Kp.of _ HE0.out).trans (setCells_kp G _ 0 Y0) (fun _ _ h => h)⟩
theorem delete_any (G gc : Nat) (x : Sp) (w : World) (h : Lz w G gc x) :
    Calls Try.prog 26 #[.slice (some ⟨G, 0, none⟩) 1 gc, .int .i64 0, .int .i64 1] w fun e w' => e = .returned (.slice (some ⟨G, 0, none⟩) 0 gc) ∧ Hid (Kp (fun j => j = G) w w') := by
  by_cases h1 : gc = 1
  · subst h1
    exact (delete_1 G x w h).mono (fun e w' h => ⟨h.1, hid h.2⟩)
  · obtain ⟨cur, _, h2, _⟩ := id h
    exact (delete_n G gc x w h (by omega)).mono (fun e w' h => ⟨h.1, hid h.2⟩)
end Go.Proofs.Ytnaekdfpdlkkcaa
