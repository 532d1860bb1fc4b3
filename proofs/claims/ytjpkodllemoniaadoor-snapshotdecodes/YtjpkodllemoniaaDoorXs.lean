/-
  partition, partitionEqual exactly: plain.
-/
import Derived.Test.YtjpkodllemoniaaDoorSsC
namespace Go.Proofs.YtjpkodllemoniaaDoor.Sr
open Go.RowKit Go.Deep
set_option linter.unusedVariables false
set_option linter.unusedSimpArgs false
set_option maxHeartbeats 8000000
set_option maxRecDepth 100000
attribute [local go_sem ↓] Go.wp_at_zero Go.wp_at_succ
theorem reg_any3 {P : Program} {id : Nat} {ops : Array Oper} {b : Bool} {Q : Exit → Act → World → Prop} {a : Act} {w : World} (ds : List Nat) (T : (Nat → Value) → World → Prop)
    (h1 : (Code.region id ops b).wp P (fun e a' w' => match e with | .normal => a' = puts a ds (fun d => a'.tmps.getD d undef) ∧ T (fun d => a'.tmps.getD d undef) w' | _ => False) a w)
    (h2 : ∀ t w', T t w' → Q .normal (puts a ds t) w') : (Code.region id ops b).wp P Q a w :=
  wp_mono h1 (fun e a' w' h => by
    cases e with
    | normal => obtain ⟨h3, ht⟩ := h; rw [h3]; exact h2 _ w' ht
    | _ => exact h.elim)
theorem scanUp_go {p : Int → Bool} {d : Array Int} {j i : Nat} (h : i ≤ j) (hp : p d[i]! = true) : Go.Sort.scanUp p d j i = Go.Sort.scanUp p d j (i + 1) := by
  conv => lhs; unfold Go.Sort.scanUp
  rw [if_pos (by simp [h, hp])]
theorem scanUp_no {p : Int → Bool} {d : Array Int} {j i : Nat} (h : ¬ i ≤ j ∨ p d[i]! = false) : Go.Sort.scanUp p d j i = i := by
  unfold Go.Sort.scanUp
  rw [if_neg]
  rcases h with h | h
  · simp [h]
  · rw [h]; simp
theorem scanDown_go {p : Int → Bool} {d : Array Int} {j i : Nat} (h : i ≤ j) (hi : 0 < i) (hp : p d[j]! = true) : Go.Sort.scanDown p d i j = Go.Sort.scanDown p d i (j - 1) := by
  cases j with
  | zero => omega
  | succ k =>
    conv => lhs; unfold Go.Sort.scanDown
    rw [if_pos (by simp [h, hp])]
    rfl
theorem scanDown_no {p : Int → Bool} {d : Array Int} {j i : Nat} (h : ¬ i ≤ j ∨ p d[j]! = false) : Go.Sort.scanDown p d i j = j := by
  cases j with
  | zero => rfl
  | succ k =>
    unfold Go.Sort.scanDown
    rw [if_neg]
    rcases h with h | h
    · simp [h]
    · rw [h]; simp
def ptD (a i j : Nat) (d : Array Int) : Nat × Array Int := if i > Go.Sort.scanDown (fun x => !lt x d[a]!) d i j then (Go.Sort.scanDown (fun x => !lt x d[a]!) d i j, d) else Go.Sort.partLoop lt a (i + 1) (Go.Sort.scanDown (fun x => !lt x d[a]!) d i j - 1) (Go.Sort.swp d i (Go.Sort.scanDown (fun x => !lt x d[a]!) d i j))
def ptE (a i j : Nat) (d : Array Int) : Nat × Array Int := if i > j then (j, d) else Go.Sort.partLoop lt a (i + 1) (j - 1) (Go.Sort.swp d i j)
theorem pt_u {a i j : Nat} {l : List Int} {RR : Nat × Array Int} (h : i ≤ j) (hl : Go.Sort.partLoop lt a i j l.toArray = RR) : (decide (gd l i < gd l a) = true → Go.Sort.partLoop lt a (i + 1) j l.toArray = RR) ∧ (decide (gd l i < gd l a) = false → ptD a i j l.toArray = RR) := by
  rw [Go.Sort.partLoop_eq] at hl
  refine ⟨fun e => ?_, fun e => ?_⟩
  · rw [Go.Sort.partLoop_eq]
    rw [scanUp_go h (by simp only [arr_get]; exact e)] at hl
    exact hl
  · rw [scanUp_no (.inr (by simp only [arr_get]; exact e))] at hl
    exact hl
theorem pt_un {a i j : Nat} {l : List Int} {RR : Nat × Array Int} (h : ¬ i ≤ j) (hl : Go.Sort.partLoop lt a i j l.toArray = RR) : ptD a i j l.toArray = RR := by
  rw [Go.Sort.partLoop_eq] at hl
  rw [scanUp_no (.inl h)] at hl
  exact hl
theorem pt_d {a i j : Nat} {l : List Int} {RR : Nat × Array Int} (h : i ≤ j) (hi : 0 < i) (hl : ptD a i j l.toArray = RR) : ((!decide (gd l j < gd l a)) = true → ptD a i (j - 1) l.toArray = RR) ∧ ((!decide (gd l j < gd l a)) = false → ptE a i j l.toArray = RR) := by
  unfold ptD at hl
  refine ⟨fun e => ?_, fun e => ?_⟩
  · rw [scanDown_go h hi (by simp only [arr_get]; exact e)] at hl
    exact hl
  · rw [scanDown_no (.inr (by simp only [arr_get]; exact e))] at hl
    exact hl
theorem pt_dn {a i j : Nat} {l : List Int} {RR : Nat × Array Int} (h : ¬ i ≤ j) (hl : ptD a i j l.toArray = RR) : ptE a i j l.toArray = RR := by
  unfold ptD at hl
  rw [scanDown_no (.inl h)] at hl
  exact hl
theorem pt_e {a i j : Nat} {l : List Int} {RR : Nat × Array Int} (h : ¬ j < i) (hl : ptE a i j l.toArray = RR) : Go.Sort.partLoop lt a (i + 1) (j - 1) (sw l i j).toArray = RR := by
  unfold ptE at hl
  rw [if_neg h] at hl
  rw [sw_arr]
  exact hl
theorem pt_f {a i j : Nat} {l : List Int} {RR : Nat × Array Int} (h : j < i) (hl : ptE a i j l.toArray = RR) : (j, l.toArray) = RR := by
  unfold ptE at hl
  rw [if_pos h] at hl
  exact hl
def pqD (a i j : Nat) (d : Array Int) : Nat × Array Int := if i > Go.Sort.scanDown (fun x => lt d[a]! x) d i j then (i, d) else Go.Sort.partEqLoop lt a (i + 1) (Go.Sort.scanDown (fun x => lt d[a]! x) d i j - 1) (Go.Sort.swp d i (Go.Sort.scanDown (fun x => lt d[a]! x) d i j))
def pqE (a i j : Nat) (d : Array Int) : Nat × Array Int := if i > j then (i, d) else Go.Sort.partEqLoop lt a (i + 1) (j - 1) (Go.Sort.swp d i j)
theorem pq_u {a i j : Nat} {l : List Int} {RR : Nat × Array Int} (h : i ≤ j) (hl : Go.Sort.partEqLoop lt a i j l.toArray = RR) : ((!decide (gd l a < gd l i)) = true → Go.Sort.partEqLoop lt a (i + 1) j l.toArray = RR) ∧ ((!decide (gd l a < gd l i)) = false → pqD a i j l.toArray = RR) := by
  rw [Go.Sort.partEqLoop_eq] at hl
  refine ⟨fun e => ?_, fun e => ?_⟩
  · rw [Go.Sort.partEqLoop_eq]
    rw [scanUp_go h (by simp only [arr_get]; exact e)] at hl
    exact hl
  · rw [scanUp_no (.inr (by simp only [arr_get]; exact e))] at hl
    exact hl
theorem pq_un {a i j : Nat} {l : List Int} {RR : Nat × Array Int} (h : ¬ i ≤ j) (hl : Go.Sort.partEqLoop lt a i j l.toArray = RR) : pqD a i j l.toArray = RR := by
  rw [Go.Sort.partEqLoop_eq] at hl
  rw [scanUp_no (.inl h)] at hl
  exact hl
theorem pq_d {a i j : Nat} {l : List Int} {RR : Nat × Array Int} (h : i ≤ j) (hi : 0 < i) (hl : pqD a i j l.toArray = RR) : (decide (gd l a < gd l j) = true → pqD a i (j - 1) l.toArray = RR) ∧ (decide (gd l a < gd l j) = false → pqE a i j l.toArray = RR) := by
  unfold pqD at hl
  refine ⟨fun e => ?_, fun e => ?_⟩
  · rw [scanDown_go h hi (by simp only [arr_get]; exact e)] at hl
    exact hl
  · rw [scanDown_no (.inr (by simp only [arr_get]; exact e))] at hl
    exact hl
theorem pq_dn {a i j : Nat} {l : List Int} {RR : Nat × Array Int} (h : ¬ i ≤ j) (hl : pqD a i j l.toArray = RR) : pqE a i j l.toArray = RR := by
  unfold pqD at hl
  rw [scanDown_no (.inl h)] at hl
  exact hl
theorem pq_e {a i j : Nat} {l : List Int} {RR : Nat × Array Int} (h : ¬ j < i) (hl : pqE a i j l.toArray = RR) : Go.Sort.partEqLoop lt a (i + 1) (j - 1) (sw l i j).toArray = RR := by
  unfold pqE at hl
  rw [if_neg h] at hl
  rw [sw_arr]
  exact hl
theorem pq_f {a i j : Nat} {l : List Int} {RR : Nat × Array Int} (h : j < i) (hl : pqE a i j l.toArray = RR) : (i, l.toArray) = RR := by
  unfold pqE at hl
  rw [if_pos h] at hl
  exact hl
end Go.Proofs.YtjpkodllemoniaaDoor.Sr
namespace Go.Proofs.YtjpkodllemoniaaDoor.Sr
open Go.RowKit Go.Deep
set_option linter.unusedVariables false
set_option linter.unusedSimpArgs false
set_option maxHeartbeats 8000000
set_option maxRecDepth 100000
attribute [local go_sem ↓] Go.wp_at_zero Go.wp_at_succ
theorem part_ex (g cap n : Nat) (l0 : List Int) (a b p : Nat) (w0 : World) (h : Uz w0 g n l0) (hap : a ≤ p) (hpb : p < b) (hbn : b ≤ n) (hn : n ≤ 1152921504606846976) :
    Calls Tryd.prog 65 #[.slice (some ⟨g, 0, none⟩) n cap, .int .i64 a, .int .i64 b, .int .i64 p] w0 fun e w' => ∃ (m : Nat) (q : Bool), e = .returned (.tuple #[.int .i64 m, .bool q]) ∧ m = (Go.Sort.partition lt l0.toArray a b p).1 ∧ Sp w0 w' g n (fun l => l.toArray = (Go.Sort.partition lt l0.toArray a b p).2.2) := by
  rw [Go.Sort.partition_fst, Go.Sort.partition_arr]
  obtain ⟨i, hi⟩ : ∃ i, i = a + 1 := ⟨_, rfl⟩
  obtain ⟨j, hj⟩ : ∃ j, j + 1 = b := ⟨b - 1, by omega⟩
  have wa : IntKind.i64.wrap ((a : Int) + 1) = (i : Int) := by rw [IntKind.wrap_i64]; omega
  have wb : IntKind.i64.wrap ((b : Int) - 1) = (j : Int) := by rw [IntKind.wrap_i64]; omega
  have hij0 : a < i ∧ i ≤ b ∧ a ≤ j ∧ j < b := by omega
  obtain ⟨i0, i1, j0, j1⟩ := hij0
  obtain ⟨RR, hRR⟩ : ∃ R, Go.Sort.partLoop lt a (a + 1) (b - 1) (Go.Sort.swp l0.toArray a p) = R := ⟨_, rfl⟩
  rw [hRR]
  have HS := hid (h.sp (F := fun l => Go.Sort.partLoop lt a i j (sw l a p).toArray = RR) (by rw [sw_arr, hi, show j = b - 1 by omega]; exact hRR))
  clear h hi hj hRR
  go_enter Tryd.func65, Tryd.ntmps65
  obtain ⟨l, p1, u1, k1⟩ := HS.out
  have P1 := hid (show (fun l => Go.Sort.partLoop lt a i j l.toArray = RR) (sw l a p) from p1)
  have U1 := hid u1
  have K1 := hid k1
  have hin : a < n := by omega
  have hjn : p < n := by omega
  have sa0 : (0 : Int) ≤ (a : Int) := by omega
  have sa2 : (a : Int) < (n : Int) := by omega
  have sp0 : (0 : Int) ≤ (p : Int) := by omega
  have sp2 : (p : Int) < (n : Int) := by omega
  clear p1 u1 k1 HS
  go_upto_region 1 with fail
  refine reg_any [12, 13, 14, 15, 16, 17, 18, 19, 20, 21, 22, 23, 24, 25] (fun X => Hid (Sp w0 X g n (fun l => Go.Sort.partLoop lt a i j l.toArray = RR))) ?_ ?_
  · have U2 := hid (U1.out.same (w' := w0.drew) rfl)
    have K2 := hid (K1.out.trans (Kp.drew _ w0) (fun _ _ e => e))
    obtain ⟨V, hV⟩ : ∃ U, w0.drew = U := ⟨_, rfl⟩
    rw [hV] at U2 K2
    obtain ⟨xi, hxi⟩ : ∃ x, gd l a = x := ⟨_, rfl⟩
    obtain ⟨xj, hxj⟩ : ∃ x, gd l p = x := ⟨_, rfl⟩
    have ci : V.cell? ⟨g, a, none⟩ = some (.int .u64 xi) := by rw [← hxi]; exact U2.out.cell hin
    have cj : V.cell? ⟨g, p, none⟩ = some (.int .u64 xj) := by rw [← hxj]; exact U2.out.cell hjn
    have fi := U2.out.frz a
    have fj := U2.out.frz p
    have U3 := hid (U2.out.set hin xj)
    have cj3 := U3.out.cell hjn
    have fj3 := U3.out.frz p
    have HSW := hid (Sp.swap (F := fun l => Go.Sort.partLoop lt a i j l.toArray = RR) P1.out U2.out K2.out hin hjn)
    rw [hxi, hxj] at HSW
    refine wp_region_held_drew (S := fun _ => True) (by kernel_rfl) trivial (fun _ => ?_)
    rw [hV]
    clear hV hxi hxj
    refine' wpAnyH_take (i := 0) (oi := _) (v := _) rfl (by kernel_rfl) (by kernel_rfl) (by kernel_rfl) (fun _ _ _ h => h) (Or.inl ⟨by kernel_rfl, ?_⟩) (by trivial) ?_
    rotate_left
    · (intro w hSw; go_simp; try (with_reducible rfl))
    try simp only [List.getElem_toArray, List.getElem_cons_succ, List.getElem_cons_zero, Act.put, List.setIfInBounds_toArray, List.set_cons_zero, List.set_cons_succ]
    refine' wpAnyH_take (i := 1) (oi := _) (v := _) rfl (by kernel_rfl) (by kernel_rfl) (by kernel_rfl) (fun _ _ _ h => h) (Or.inl ⟨by kernel_rfl, ?_⟩) (by trivial) ?_
    rotate_left
    · (intro w hSw; go_simp; try (with_reducible rfl))
    try simp only [List.getElem_toArray, List.getElem_cons_succ, List.getElem_cons_zero, Act.put, List.setIfInBounds_toArray, List.set_cons_zero, List.set_cons_succ]
    refine' wpAnyH_take (i := 2) (oi := _) (v := _) rfl (by kernel_rfl) (by kernel_rfl) (by kernel_rfl) (fun _ _ _ h => h) (Or.inl ⟨by kernel_rfl, ?_⟩) (by trivial) ?_
    rotate_left
    · (intro w hSw; go_simp; try (with_reducible rfl))
    try simp only [List.getElem_toArray, List.getElem_cons_succ, List.getElem_cons_zero, Act.put, List.setIfInBounds_toArray, List.set_cons_zero, List.set_cons_succ]
    refine' wpAnyH_take (i := 3) (oi := _) (v := _) rfl (by kernel_rfl) (by kernel_rfl) (by kernel_rfl) (fun _ _ _ h => h) (Or.inl ⟨by kernel_rfl, ?_⟩) (by trivial) ?_
    rotate_left
    · (intro w hSw; go_simp; try (with_reducible rfl))
    try simp only [List.getElem_toArray, List.getElem_cons_succ, List.getElem_cons_zero, Act.put, List.setIfInBounds_toArray, List.set_cons_zero, List.set_cons_succ]
    refine' wpAnyH_take (i := 4) (oi := _) (v := _) rfl (by kernel_rfl) (by kernel_rfl) (by kernel_rfl) (fun _ _ _ h => h) (Or.inl ⟨by kernel_rfl, ?_⟩) (by trivial) ?_
    rotate_left
    · (intro w hSw; go_simp; try (with_reducible rfl))
    try simp only [List.getElem_toArray, List.getElem_cons_succ, List.getElem_cons_zero, Act.put, List.setIfInBounds_toArray, List.set_cons_zero, List.set_cons_succ]
    refine' wpAnyH_take (i := 5) (oi := _) (v := _) rfl (by kernel_rfl) (by kernel_rfl) (by kernel_rfl) (fun _ _ _ h => h) (Or.inl ⟨by kernel_rfl, ?_⟩) (by trivial) ?_
    rotate_left
    · (intro w hSw; go_simp; try (with_reducible rfl))
    try simp only [List.getElem_toArray, List.getElem_cons_succ, List.getElem_cons_zero, Act.put, List.setIfInBounds_toArray, List.set_cons_zero, List.set_cons_succ]
    refine' wpAnyH_take (i := 6) (oi := _) (v := _) rfl (by kernel_rfl) (by kernel_rfl) (by kernel_rfl) (fun _ _ _ h => h) (Or.inl ⟨by kernel_rfl, ?_⟩) (by trivial) ?_
    rotate_left
    · (intro w hSw; go_simp; try (with_reducible rfl))
    try simp only [List.getElem_toArray, List.getElem_cons_succ, List.getElem_cons_zero, Act.put, List.setIfInBounds_toArray, List.set_cons_zero, List.set_cons_succ]
    refine' wpAnyH_take (i := 8) (oi := _) (v := _) rfl (by kernel_rfl) (by kernel_rfl) (by kernel_rfl) (fun _ _ _ h => h) (Or.inl ⟨by kernel_rfl, ?_⟩) (by trivial) ?_
    rotate_left
    · (intro w hSw; go_simp; try (with_reducible rfl))
    try simp only [List.getElem_toArray, List.getElem_cons_succ, List.getElem_cons_zero, Act.put, List.setIfInBounds_toArray, List.set_cons_zero, List.set_cons_succ]
    refine' wpAnyH_take (i := 9) (oi := _) (v := _) rfl (by kernel_rfl) (by kernel_rfl) (by kernel_rfl) (fun _ _ _ h => h) (Or.inl ⟨by kernel_rfl, ?_⟩) (by trivial) ?_
    rotate_left
    · (intro w hSw; go_simp; try (with_reducible rfl))
    try simp only [List.getElem_toArray, List.getElem_cons_succ, List.getElem_cons_zero, Act.put, List.setIfInBounds_toArray, List.set_cons_zero, List.set_cons_succ]
    refine' wpAnyH_take (i := 10) (oi := _) (v := _) rfl (by kernel_rfl) (by kernel_rfl) (by kernel_rfl) (fun _ _ _ h => h) (Or.inl ⟨by kernel_rfl, ?_⟩) (by trivial) ?_
    rotate_left
    · (intro w hSw; go_simp; try (with_reducible rfl))
    try simp only [List.getElem_toArray, List.getElem_cons_succ, List.getElem_cons_zero, Act.put, List.setIfInBounds_toArray, List.set_cons_zero, List.set_cons_succ]
    refine wpAnyH_ready (rs := [7, 11]) (by kernel_rfl) (by simp) ?_
    refine (AllReadyH.cons (o := _) rfl (fun K hK => ?_) (AllReadyH.cons (o := _) rfl (fun K hK => ?_) AllReadyH.nil))
    · go_simp
      refine hK.out _ _ trivial (fun _ => ?_)
      clear hK K
      try simp only [List.getElem_toArray, List.getElem_cons_succ, List.getElem_cons_zero, Act.put, List.setIfInBounds_toArray, List.set_cons_zero, List.set_cons_succ]
      refine wpAnyH_ready (rs := [11]) (by kernel_rfl) (by simp) ?_
      refine (AllReadyH.cons (o := _) rfl (fun K hK => ?_) AllReadyH.nil)
      go_simp
      refine hK.out _ _ trivial (fun _ => ?_)
      clear hK K
      try simp only [List.getElem_toArray, List.getElem_cons_succ, List.getElem_cons_zero, Act.put, List.setIfInBounds_toArray, List.set_cons_zero, List.set_cons_succ]
      refine' wpAnyH_take (i := 12) (oi := _) (v := _) rfl (by kernel_rfl) (by kernel_rfl) (by kernel_rfl) (fun _ _ _ h => h) (Or.inl ⟨by kernel_rfl, ?_⟩) (by trivial) ?_
      rotate_left
      · (intro w hSw; go_simp; try (with_reducible rfl))
      try simp only [List.getElem_toArray, List.getElem_cons_succ, List.getElem_cons_zero, Act.put, List.setIfInBounds_toArray, List.set_cons_zero, List.set_cons_succ]
      refine wpAnyH_ready (rs := [13]) (by kernel_rfl) (by simp) ?_
      refine (AllReadyH.cons (o := _) rfl (fun K hK => ?_) AllReadyH.nil)
      go_simp
      refine hK.out _ _ trivial (fun _ => ?_)
      clear hK K
      try simp only [List.getElem_toArray, List.getElem_cons_succ, List.getElem_cons_zero, Act.put, List.setIfInBounds_toArray, List.set_cons_zero, List.set_cons_succ]
      refine' wpAnyH_take (i := 14) (oi := _) (v := _) rfl (by kernel_rfl) (by kernel_rfl) (by kernel_rfl) (fun _ _ _ h => h) (Or.inl ⟨by kernel_rfl, ?_⟩) (by trivial) ?_
      rotate_left
      · (intro w hSw; go_simp; try (with_reducible rfl))
      try simp only [List.getElem_toArray, List.getElem_cons_succ, List.getElem_cons_zero, Act.put, List.setIfInBounds_toArray, List.set_cons_zero, List.set_cons_succ]
      refine wpAnyH_ready (rs := [15]) (by kernel_rfl) (by simp) ?_
      refine (AllReadyH.cons (o := _) rfl (fun K hK => ?_) AllReadyH.nil)
      go_simp
      refine hK.out _ _ trivial (fun _ => ?_)
      clear hK K
      try simp only [List.getElem_toArray, List.getElem_cons_succ, List.getElem_cons_zero, Act.put, List.setIfInBounds_toArray, List.set_cons_zero, List.set_cons_succ]
      refine wpAnyH_done (by kernel_rfl) ?_ _
      exact ⟨by kernel_rfl, HSW⟩
    · go_simp
      refine hK.out _ _ trivial (fun _ => ?_)
      clear hK K
      try simp only [List.getElem_toArray, List.getElem_cons_succ, List.getElem_cons_zero, Act.put, List.setIfInBounds_toArray, List.set_cons_zero, List.set_cons_succ]
      refine wpAnyH_ready (rs := [7]) (by kernel_rfl) (by simp) ?_
      refine (AllReadyH.cons (o := _) rfl (fun K hK => ?_) AllReadyH.nil)
      go_simp
      refine hK.out _ _ trivial (fun _ => ?_)
      clear hK K
      try simp only [List.getElem_toArray, List.getElem_cons_succ, List.getElem_cons_zero, Act.put, List.setIfInBounds_toArray, List.set_cons_zero, List.set_cons_succ]
      refine' wpAnyH_take (i := 12) (oi := _) (v := _) rfl (by kernel_rfl) (by kernel_rfl) (by kernel_rfl) (fun _ _ _ h => h) (Or.inl ⟨by kernel_rfl, ?_⟩) (by trivial) ?_
      rotate_left
      · (intro w hSw; go_simp; try (with_reducible rfl))
      try simp only [List.getElem_toArray, List.getElem_cons_succ, List.getElem_cons_zero, Act.put, List.setIfInBounds_toArray, List.set_cons_zero, List.set_cons_succ]
      refine wpAnyH_ready (rs := [13]) (by kernel_rfl) (by simp) ?_
      refine (AllReadyH.cons (o := _) rfl (fun K hK => ?_) AllReadyH.nil)
      go_simp
      refine hK.out _ _ trivial (fun _ => ?_)
      clear hK K
      try simp only [List.getElem_toArray, List.getElem_cons_succ, List.getElem_cons_zero, Act.put, List.setIfInBounds_toArray, List.set_cons_zero, List.set_cons_succ]
      refine' wpAnyH_take (i := 14) (oi := _) (v := _) rfl (by kernel_rfl) (by kernel_rfl) (by kernel_rfl) (fun _ _ _ h => h) (Or.inl ⟨by kernel_rfl, ?_⟩) (by trivial) ?_
      rotate_left
      · (intro w hSw; go_simp; try (with_reducible rfl))
      try simp only [List.getElem_toArray, List.getElem_cons_succ, List.getElem_cons_zero, Act.put, List.setIfInBounds_toArray, List.set_cons_zero, List.set_cons_succ]
      refine wpAnyH_ready (rs := [15]) (by kernel_rfl) (by simp) ?_
      refine (AllReadyH.cons (o := _) rfl (fun K hK => ?_) AllReadyH.nil)
      go_simp
      refine hK.out _ _ trivial (fun _ => ?_)
      clear hK K
      try simp only [List.getElem_toArray, List.getElem_cons_succ, List.getElem_cons_zero, Act.put, List.setIfInBounds_toArray, List.set_cons_zero, List.set_cons_succ]
      refine wpAnyH_done (by kernel_rfl) ?_ _
      exact ⟨by kernel_rfl, HSW⟩
  · intro t X HS
    simp only [puts, List.foldl_cons, List.foldl_nil, Act.put, List.setIfInBounds_toArray, List.set_cons_zero, List.set_cons_succ]
    go_upto_region 3 with fail
    go_loopw [10] (fun iv wr => ∃ i' : Nat, iv = .int .i64 i' ∧ i ≤ i' ∧ i' ≤ b ∧ Hid (Sp w0 wr g n (fun l => Go.Sort.partLoop lt a i' j l.toArray = RR))) (fun iv _ => b + 1 - (intOf iv).toNat)
    case atStart => exact ⟨i, rfl, by omega, by omega, HS⟩
    case round =>
      clear HS
      obtain ⟨i', rfl, i0, i1, HS⟩ := hrel
      go_upto_region 3 with fail
      refine reg_any3 [30, 31, 32, 33, 34, 35, 36, 37, 38, 39, 40, 41, 42, 43] (fun t X => Hid (∃ β : Bool, t 43 = .bool β ∧ (β = true → (i' ≤ j) ∧ Sp w0 X g n (fun l => Go.Sort.partLoop lt a (i' + 1) j l.toArray = RR)) ∧ (β = false → Sp w0 X g n (fun l => ptD a i' j l.toArray = RR)))) ?_ ?_
      · by_cases hle : i' ≤ j
        · have ile : (i' : Int) ≤ (j : Int) := by omega
          obtain ⟨l, p1, u1, k1⟩ := HS.out
          have U1 := hid u1
          have K1 := hid k1
          have HP := hid (show ((decide (gd l i' < gd l a)) = true → (fun l => Go.Sort.partLoop lt a (i' + 1) j l.toArray = RR) l) ∧ ((decide (gd l i' < gd l a)) = false → (fun l => ptD a i' j l.toArray = RR) l) from pt_u hle p1)
          obtain ⟨y, hy⟩ : ∃ y, gd l i' = y := ⟨_, rfl⟩
          have cy : wr.cell? ⟨g, i', none⟩ = some (.int .u64 y) := by rw [← hy]; exact u1.cell (by omega)
          rw [hy] at HP
          clear hy
          obtain ⟨z, hz⟩ : ∃ y, gd l a = y := ⟨_, rfl⟩
          have cz : wr.cell? ⟨g, a, none⟩ = some (.int .u64 z) := by rw [← hz]; exact u1.cell (by omega)
          rw [hz] at HP
          clear hz
          clear p1 u1 k1
          have a0' : (0 : Int) ≤ (a : Int) := by omega
          have a2 : (a : Int) < (n : Int) := by omega
          have j0' : (0 : Int) ≤ (j : Int) := by omega
          have j2 : (j : Int) < (n : Int) := by omega
          have ii0 : (0 : Int) ≤ (i' : Int) := (by omega)
          have ii2 : (i' : Int) < (n : Int) := (by omega)
          have HLE := hid hle
          clear hle
          go_quiet (first | (go_at_call 63; with_reducible exact Calls.quiet_of_same (less_any _ _ _)))
          exact ⟨by kernel_rfl, hid ⟨_, by rfl, fun hb => ⟨HLE.out, l, HP.out.1 hb, U1.out.same (w' := wr.drewN nq) rfl, K1.out.trans (Kp.drewN _ wr nq) (fun _ _ e => e)⟩, fun hb => ⟨l, HP.out.2 hb, U1.out.same (w' := wr.drewN nq) rfl, K1.out.trans (Kp.drewN _ wr nq) (fun _ _ e => e)⟩⟩⟩
        · have HPN := hid (HS.out.mono (G := fun l => ptD a i' j l.toArray = RR) (fun l _ hl => pt_un hle hl))
          have ilN : decide (i' ≤ j) = false := decide_eq_false hle
          have ile' : ¬ (i' : Int) ≤ (j : Int) := by omega
          have ile : decide ((i' : Int) ≤ (j : Int)) = false := decide_eq_false (by omega)
          go_quiet (first | (go_at_call 63; with_reducible exact Calls.quiet_of_same (less_any _ _ _)))
          exact ⟨by kernel_rfl, hid ⟨false, by rfl, (fun e => by cases e), fun _ => HPN.out.drewN nq⟩⟩
      · rintro t X HB
        obtain ⟨β, eβ, hβ, hγ⟩ := HB.out
        simp only [puts, List.foldl_cons, List.foldl_nil, Act.put, List.setIfInBounds_toArray, List.set_cons_zero, List.set_cons_succ]
        rw [eβ]
        clear eβ HB
        have wi : IntKind.i64.wrap ((i' : Int) + 1) = ((i' + 1 : Nat) : Int) := by rw [IntKind.wrap_i64]; omega
        cases β with
        | true =>
          have HSX := hid (hβ rfl).2
          have hβ' := (hβ rfl).1
          clear hβ hγ HS
          go_wp2
          go_roundw
          case rel => exact ⟨i' + 1, by go_num, by omega, by omega, HSX⟩
          case measure => first | (simp [intOf]; done) | (simp [intOf]; omega)
        | false =>
          have HSX := hid (hγ rfl)
          clear hβ hγ HS wi
          have HS := HSX
          clear HSX
          obtain ⟨i, hi⟩ : ∃ k, i' = k := ⟨_, rfl⟩
          rw [hi] at i0 i1 HS ⊢
          clear hi
          go_upto_region 5 with fail
          go_loopw [11] (fun jv wr => ∃ j' : Nat, jv = .int .i64 j' ∧ a ≤ j' ∧ j' < b ∧ j' ≤ j ∧ Hid (Sp w0 wr g n (fun l => ptD a i j' l.toArray = RR))) (fun jv _ => (intOf jv).toNat)
          case atStart => exact ⟨j, rfl, by omega, by omega, by omega, HS⟩
          case round =>
            clear HS
            obtain ⟨j', rfl, jj0, jj1, jj2, HS⟩ := hrel
            go_upto_region 5 with fail
            refine reg_any3 [46, 47, 48, 49, 50, 51, 52, 53, 54, 55, 56, 57, 58, 59, 60] (fun t X => Hid (∃ β : Bool, t 60 = .bool β ∧ (β = true → (i ≤ j') ∧ Sp w0 X g n (fun l => ptD a i (j' - 1) l.toArray = RR)) ∧ (β = false → Sp w0 X g n (fun l => ptE a i j' l.toArray = RR)))) ?_ ?_
            · by_cases hle : i ≤ j'
              · have ile : (i : Int) ≤ (j' : Int) := by omega
                obtain ⟨l, p1, u1, k1⟩ := HS.out
                have U1 := hid u1
                have K1 := hid k1
                have HP := hid (show (((!decide (gd l j' < gd l a))) = true → (fun l => ptD a i (j' - 1) l.toArray = RR) l) ∧ (((!decide (gd l j' < gd l a))) = false → (fun l => ptE a i j' l.toArray = RR) l) from pt_d hle (by omega) p1)
                obtain ⟨z, hz⟩ : ∃ y, gd l j' = y := ⟨_, rfl⟩
                have cz : wr.cell? ⟨g, j', none⟩ = some (.int .u64 z) := by rw [← hz]; exact u1.cell (by omega)
                rw [hz] at HP
                clear hz
                obtain ⟨y, hy⟩ : ∃ y, gd l a = y := ⟨_, rfl⟩
                have cy : wr.cell? ⟨g, a, none⟩ = some (.int .u64 y) := by rw [← hy]; exact u1.cell (by omega)
                rw [hy] at HP
                clear hy
                clear p1 u1 k1
                have a0' : (0 : Int) ≤ (a : Int) := by omega
                have a2 : (a : Int) < (n : Int) := by omega
                have ii0 : (0 : Int) ≤ (j' : Int) := (by omega)
                have ii2 : (j' : Int) < (n : Int) := (by omega)
                have HLE := hid hle
                clear hle
                go_quiet (first | (go_at_call 63; with_reducible exact Calls.quiet_of_same (less_any _ _ _)))
                exact ⟨by kernel_rfl, hid ⟨_, by rfl, fun hb => ⟨HLE.out, l, HP.out.1 hb, U1.out.same (w' := wr.drewN nq) rfl, K1.out.trans (Kp.drewN _ wr nq) (fun _ _ e => e)⟩, fun hb => ⟨l, HP.out.2 hb, U1.out.same (w' := wr.drewN nq) rfl, K1.out.trans (Kp.drewN _ wr nq) (fun _ _ e => e)⟩⟩⟩
              · have HPN := hid (HS.out.mono (G := fun l => ptE a i j' l.toArray = RR) (fun l _ hl => pt_dn hle hl))
                have ilN : decide (i ≤ j') = false := decide_eq_false hle
                have ile' : ¬ (i : Int) ≤ (j' : Int) := by omega
                have ile : decide ((i : Int) ≤ (j' : Int)) = false := decide_eq_false (by omega)
                go_quiet (first | (go_at_call 63; with_reducible exact Calls.quiet_of_same (less_any _ _ _)))
                exact ⟨by kernel_rfl, hid ⟨false, by rfl, (fun e => by cases e), fun _ => HPN.out.drewN nq⟩⟩
            · rintro t X HB
              obtain ⟨β, eβ, hβ, hγ⟩ := HB.out
              simp only [puts, List.foldl_cons, List.foldl_nil, Act.put, List.setIfInBounds_toArray, List.set_cons_zero, List.set_cons_succ]
              rw [eβ]
              clear eβ HB
              cases β with
              | true =>
                have HSX := hid (hβ rfl).2
                have hβ' := (hβ rfl).1
                clear hβ hγ HS
                obtain ⟨q, hq⟩ : ∃ q, j' = q + 1 := ⟨j' - 1, by omega⟩
                have wj : IntKind.i64.wrap ((j' : Int) - 1) = (q : Int) := by rw [IntKind.wrap_i64]; omega
                rw [show j' - 1 = q by omega] at HSX
                have HQQ := hid hq
                clear hq
                go_wp2
                go_roundw
                case rel => exact ⟨q, by go_num, by have := HQQ.out; omega, by have := HQQ.out; omega, by have := HQQ.out; omega, HSX⟩
                case measure => have := HQQ.out; first | (simp [intOf]; done) | (simp [intOf]; omega)
              | false =>
                have HSX := hid (hγ rfl)
                clear hβ hγ HS
                have HS := HSX
                clear HSX
                obtain ⟨j, hj⟩ : ∃ k, j' = k := ⟨_, rfl⟩
                rw [hj] at jj0 jj1 jj2 HS ⊢
                clear hj
                by_cases hij : j < i
                · have iij : (j : Int) < (i : Int) := by omega
                  obtain ⟨l, p1, u1, k1⟩ := HS.out
                  have HJ := hid (show j = RR.1 by rw [← pt_f hij p1])
                  have P1 := hid (show (fun l => l.toArray = Go.Sort.swp RR.2 RR.1 a) (sw l j a) from by show (sw l j a).toArray = _; rw [sw_arr, ← pt_f hij p1])
                  have U1 := hid u1
                  have K1 := hid k1
                  have hin : j < n := by omega
                  have hjn : a < n := by omega
                  have sj0 : (0 : Int) ≤ (j : Int) := by omega
                  have sj2 : (j : Int) < (n : Int) := by omega
                  have sa0 : (0 : Int) ≤ (a : Int) := by omega
                  have sa2 : (a : Int) < (n : Int) := by omega
                  clear p1 u1 k1 HS
                  go_upto_region 8 with fail
                  refine reg_any [66, 67, 68, 69, 70, 71, 72, 73, 74, 75, 76, 77, 78, 79] (fun X => Hid (Sp w0 X g n (fun l => l.toArray = Go.Sort.swp RR.2 RR.1 a))) ?_ ?_
                  · have U2 := hid (U1.out.same (w' := X.drew) rfl)
                    have K2 := hid (K1.out.trans (Kp.drew _ X) (fun _ _ e => e))
                    obtain ⟨V, hV⟩ : ∃ U, X.drew = U := ⟨_, rfl⟩
                    rw [hV] at U2 K2
                    obtain ⟨xi, hxi⟩ : ∃ x, gd l j = x := ⟨_, rfl⟩
                    obtain ⟨xj, hxj⟩ : ∃ x, gd l a = x := ⟨_, rfl⟩
                    have ci : V.cell? ⟨g, j, none⟩ = some (.int .u64 xi) := by rw [← hxi]; exact U2.out.cell hin
                    have cj : V.cell? ⟨g, a, none⟩ = some (.int .u64 xj) := by rw [← hxj]; exact U2.out.cell hjn
                    have fi := U2.out.frz j
                    have fj := U2.out.frz a
                    have U3 := hid (U2.out.set hin xj)
                    have cj3 := U3.out.cell hjn
                    have fj3 := U3.out.frz a
                    have HSW := hid (Sp.swap (F := fun l => l.toArray = Go.Sort.swp RR.2 RR.1 a) P1.out U2.out K2.out hin hjn)
                    rw [hxi, hxj] at HSW
                    refine wp_region_held_drew (S := fun _ => True) (by kernel_rfl) trivial (fun _ => ?_)
                    rw [hV]
                    clear hV hxi hxj
                    refine' wpAnyH_take (i := 0) (oi := _) (v := _) rfl (by kernel_rfl) (by kernel_rfl) (by kernel_rfl) (fun _ _ _ h => h) (Or.inl ⟨by kernel_rfl, ?_⟩) (by trivial) ?_
                    rotate_left
                    · (intro w hSw; go_simp; try (with_reducible rfl))
                    try simp only [List.getElem_toArray, List.getElem_cons_succ, List.getElem_cons_zero, Act.put, List.setIfInBounds_toArray, List.set_cons_zero, List.set_cons_succ]
                    refine' wpAnyH_take (i := 1) (oi := _) (v := _) rfl (by kernel_rfl) (by kernel_rfl) (by kernel_rfl) (fun _ _ _ h => h) (Or.inl ⟨by kernel_rfl, ?_⟩) (by trivial) ?_
                    rotate_left
                    · (intro w hSw; go_simp; try (with_reducible rfl))
                    try simp only [List.getElem_toArray, List.getElem_cons_succ, List.getElem_cons_zero, Act.put, List.setIfInBounds_toArray, List.set_cons_zero, List.set_cons_succ]
                    refine' wpAnyH_take (i := 2) (oi := _) (v := _) rfl (by kernel_rfl) (by kernel_rfl) (by kernel_rfl) (fun _ _ _ h => h) (Or.inl ⟨by kernel_rfl, ?_⟩) (by trivial) ?_
                    rotate_left
                    · (intro w hSw; go_simp; try (with_reducible rfl))
                    try simp only [List.getElem_toArray, List.getElem_cons_succ, List.getElem_cons_zero, Act.put, List.setIfInBounds_toArray, List.set_cons_zero, List.set_cons_succ]
                    refine' wpAnyH_take (i := 3) (oi := _) (v := _) rfl (by kernel_rfl) (by kernel_rfl) (by kernel_rfl) (fun _ _ _ h => h) (Or.inl ⟨by kernel_rfl, ?_⟩) (by trivial) ?_
                    rotate_left
                    · (intro w hSw; go_simp; try (with_reducible rfl))
                    try simp only [List.getElem_toArray, List.getElem_cons_succ, List.getElem_cons_zero, Act.put, List.setIfInBounds_toArray, List.set_cons_zero, List.set_cons_succ]
                    refine' wpAnyH_take (i := 4) (oi := _) (v := _) rfl (by kernel_rfl) (by kernel_rfl) (by kernel_rfl) (fun _ _ _ h => h) (Or.inl ⟨by kernel_rfl, ?_⟩) (by trivial) ?_
                    rotate_left
                    · (intro w hSw; go_simp; try (with_reducible rfl))
                    try simp only [List.getElem_toArray, List.getElem_cons_succ, List.getElem_cons_zero, Act.put, List.setIfInBounds_toArray, List.set_cons_zero, List.set_cons_succ]
                    refine' wpAnyH_take (i := 5) (oi := _) (v := _) rfl (by kernel_rfl) (by kernel_rfl) (by kernel_rfl) (fun _ _ _ h => h) (Or.inl ⟨by kernel_rfl, ?_⟩) (by trivial) ?_
                    rotate_left
                    · (intro w hSw; go_simp; try (with_reducible rfl))
                    try simp only [List.getElem_toArray, List.getElem_cons_succ, List.getElem_cons_zero, Act.put, List.setIfInBounds_toArray, List.set_cons_zero, List.set_cons_succ]
                    refine' wpAnyH_take (i := 6) (oi := _) (v := _) rfl (by kernel_rfl) (by kernel_rfl) (by kernel_rfl) (fun _ _ _ h => h) (Or.inl ⟨by kernel_rfl, ?_⟩) (by trivial) ?_
                    rotate_left
                    · (intro w hSw; go_simp; try (with_reducible rfl))
                    try simp only [List.getElem_toArray, List.getElem_cons_succ, List.getElem_cons_zero, Act.put, List.setIfInBounds_toArray, List.set_cons_zero, List.set_cons_succ]
                    refine' wpAnyH_take (i := 8) (oi := _) (v := _) rfl (by kernel_rfl) (by kernel_rfl) (by kernel_rfl) (fun _ _ _ h => h) (Or.inl ⟨by kernel_rfl, ?_⟩) (by trivial) ?_
                    rotate_left
                    · (intro w hSw; go_simp; try (with_reducible rfl))
                    try simp only [List.getElem_toArray, List.getElem_cons_succ, List.getElem_cons_zero, Act.put, List.setIfInBounds_toArray, List.set_cons_zero, List.set_cons_succ]
                    refine' wpAnyH_take (i := 9) (oi := _) (v := _) rfl (by kernel_rfl) (by kernel_rfl) (by kernel_rfl) (fun _ _ _ h => h) (Or.inl ⟨by kernel_rfl, ?_⟩) (by trivial) ?_
                    rotate_left
                    · (intro w hSw; go_simp; try (with_reducible rfl))
                    try simp only [List.getElem_toArray, List.getElem_cons_succ, List.getElem_cons_zero, Act.put, List.setIfInBounds_toArray, List.set_cons_zero, List.set_cons_succ]
                    refine' wpAnyH_take (i := 10) (oi := _) (v := _) rfl (by kernel_rfl) (by kernel_rfl) (by kernel_rfl) (fun _ _ _ h => h) (Or.inl ⟨by kernel_rfl, ?_⟩) (by trivial) ?_
                    rotate_left
                    · (intro w hSw; go_simp; try (with_reducible rfl))
                    try simp only [List.getElem_toArray, List.getElem_cons_succ, List.getElem_cons_zero, Act.put, List.setIfInBounds_toArray, List.set_cons_zero, List.set_cons_succ]
                    refine wpAnyH_ready (rs := [7, 11]) (by kernel_rfl) (by simp) ?_
                    refine (AllReadyH.cons (o := _) rfl (fun K hK => ?_) (AllReadyH.cons (o := _) rfl (fun K hK => ?_) AllReadyH.nil))
                    · go_simp
                      refine hK.out _ _ trivial (fun _ => ?_)
                      clear hK K
                      try simp only [List.getElem_toArray, List.getElem_cons_succ, List.getElem_cons_zero, Act.put, List.setIfInBounds_toArray, List.set_cons_zero, List.set_cons_succ]
                      refine wpAnyH_ready (rs := [11]) (by kernel_rfl) (by simp) ?_
                      refine (AllReadyH.cons (o := _) rfl (fun K hK => ?_) AllReadyH.nil)
                      go_simp
                      refine hK.out _ _ trivial (fun _ => ?_)
                      clear hK K
                      try simp only [List.getElem_toArray, List.getElem_cons_succ, List.getElem_cons_zero, Act.put, List.setIfInBounds_toArray, List.set_cons_zero, List.set_cons_succ]
                      refine' wpAnyH_take (i := 12) (oi := _) (v := _) rfl (by kernel_rfl) (by kernel_rfl) (by kernel_rfl) (fun _ _ _ h => h) (Or.inl ⟨by kernel_rfl, ?_⟩) (by trivial) ?_
                      rotate_left
                      · (intro w hSw; go_simp; try (with_reducible rfl))
                      try simp only [List.getElem_toArray, List.getElem_cons_succ, List.getElem_cons_zero, Act.put, List.setIfInBounds_toArray, List.set_cons_zero, List.set_cons_succ]
                      refine wpAnyH_ready (rs := [13]) (by kernel_rfl) (by simp) ?_
                      refine (AllReadyH.cons (o := _) rfl (fun K hK => ?_) AllReadyH.nil)
                      go_simp
                      refine hK.out _ _ trivial (fun _ => ?_)
                      clear hK K
                      try simp only [List.getElem_toArray, List.getElem_cons_succ, List.getElem_cons_zero, Act.put, List.setIfInBounds_toArray, List.set_cons_zero, List.set_cons_succ]
                      refine' wpAnyH_take (i := 14) (oi := _) (v := _) rfl (by kernel_rfl) (by kernel_rfl) (by kernel_rfl) (fun _ _ _ h => h) (Or.inl ⟨by kernel_rfl, ?_⟩) (by trivial) ?_
                      rotate_left
                      · (intro w hSw; go_simp; try (with_reducible rfl))
                      try simp only [List.getElem_toArray, List.getElem_cons_succ, List.getElem_cons_zero, Act.put, List.setIfInBounds_toArray, List.set_cons_zero, List.set_cons_succ]
                      refine wpAnyH_ready (rs := [15]) (by kernel_rfl) (by simp) ?_
                      refine (AllReadyH.cons (o := _) rfl (fun K hK => ?_) AllReadyH.nil)
                      go_simp
                      refine hK.out _ _ trivial (fun _ => ?_)
                      clear hK K
                      try simp only [List.getElem_toArray, List.getElem_cons_succ, List.getElem_cons_zero, Act.put, List.setIfInBounds_toArray, List.set_cons_zero, List.set_cons_succ]
                      refine wpAnyH_done (by kernel_rfl) ?_ _
                      exact ⟨by kernel_rfl, HSW⟩
                    · go_simp
                      refine hK.out _ _ trivial (fun _ => ?_)
                      clear hK K
                      try simp only [List.getElem_toArray, List.getElem_cons_succ, List.getElem_cons_zero, Act.put, List.setIfInBounds_toArray, List.set_cons_zero, List.set_cons_succ]
                      refine wpAnyH_ready (rs := [7]) (by kernel_rfl) (by simp) ?_
                      refine (AllReadyH.cons (o := _) rfl (fun K hK => ?_) AllReadyH.nil)
                      go_simp
                      refine hK.out _ _ trivial (fun _ => ?_)
                      clear hK K
                      try simp only [List.getElem_toArray, List.getElem_cons_succ, List.getElem_cons_zero, Act.put, List.setIfInBounds_toArray, List.set_cons_zero, List.set_cons_succ]
                      refine' wpAnyH_take (i := 12) (oi := _) (v := _) rfl (by kernel_rfl) (by kernel_rfl) (by kernel_rfl) (fun _ _ _ h => h) (Or.inl ⟨by kernel_rfl, ?_⟩) (by trivial) ?_
                      rotate_left
                      · (intro w hSw; go_simp; try (with_reducible rfl))
                      try simp only [List.getElem_toArray, List.getElem_cons_succ, List.getElem_cons_zero, Act.put, List.setIfInBounds_toArray, List.set_cons_zero, List.set_cons_succ]
                      refine wpAnyH_ready (rs := [13]) (by kernel_rfl) (by simp) ?_
                      refine (AllReadyH.cons (o := _) rfl (fun K hK => ?_) AllReadyH.nil)
                      go_simp
                      refine hK.out _ _ trivial (fun _ => ?_)
                      clear hK K
                      try simp only [List.getElem_toArray, List.getElem_cons_succ, List.getElem_cons_zero, Act.put, List.setIfInBounds_toArray, List.set_cons_zero, List.set_cons_succ]
                      refine' wpAnyH_take (i := 14) (oi := _) (v := _) rfl (by kernel_rfl) (by kernel_rfl) (by kernel_rfl) (fun _ _ _ h => h) (Or.inl ⟨by kernel_rfl, ?_⟩) (by trivial) ?_
                      rotate_left
                      · (intro w hSw; go_simp; try (with_reducible rfl))
                      try simp only [List.getElem_toArray, List.getElem_cons_succ, List.getElem_cons_zero, Act.put, List.setIfInBounds_toArray, List.set_cons_zero, List.set_cons_succ]
                      refine wpAnyH_ready (rs := [15]) (by kernel_rfl) (by simp) ?_
                      refine (AllReadyH.cons (o := _) rfl (fun K hK => ?_) AllReadyH.nil)
                      go_simp
                      refine hK.out _ _ trivial (fun _ => ?_)
                      clear hK K
                      try simp only [List.getElem_toArray, List.getElem_cons_succ, List.getElem_cons_zero, Act.put, List.setIfInBounds_toArray, List.set_cons_zero, List.set_cons_succ]
                      refine wpAnyH_done (by kernel_rfl) ?_ _
                      exact ⟨by kernel_rfl, HSW⟩
                  · intro t X HS
                    simp only [puts, List.foldl_cons, List.foldl_nil, Act.put, List.setIfInBounds_toArray, List.set_cons_zero, List.set_cons_succ]
                    go_wp2
                    go_ret2
                    first | exact ⟨j, true, rfl, HJ.out, HS.out⟩ | exact ⟨j, rfl, HJ.out, HS.out⟩ | exact ⟨j, .inl rfl, HJ.out, HS.out⟩ | exact ⟨j, .inr rfl, HJ.out, HS.out⟩
                · have iij : decide ((j : Int) < (i : Int)) = false := decide_eq_false (by omega)
                  obtain ⟨l, p1, u1, k1⟩ := HS.out
                  have P1 := hid (show (fun l => Go.Sort.partLoop lt a (i + 1) (j - 1) l.toArray = RR) (sw l i j) from pt_e hij p1)
                  have U1 := hid u1
                  have K1 := hid k1
                  have hin : i < n := by omega
                  have hjn : j < n := by omega
                  have si0 : (0 : Int) ≤ (i : Int) := by omega
                  have si2 : (i : Int) < (n : Int) := by omega
                  have sj0 : (0 : Int) ≤ (j : Int) := by omega
                  have sj2 : (j : Int) < (n : Int) := by omega
                  clear p1 u1 k1 HS
                  go_upto_region 10 with fail
                  refine reg_any [81, 82, 83, 84, 85, 86, 87, 88, 89, 90, 91, 92, 93, 94] (fun X => Hid (Sp w0 X g n (fun l => Go.Sort.partLoop lt a (i + 1) (j - 1) l.toArray = RR))) ?_ ?_
                  · have U2 := hid (U1.out.same (w' := X.drew) rfl)
                    have K2 := hid (K1.out.trans (Kp.drew _ X) (fun _ _ e => e))
                    obtain ⟨V, hV⟩ : ∃ U, X.drew = U := ⟨_, rfl⟩
                    rw [hV] at U2 K2
                    obtain ⟨xi, hxi⟩ : ∃ x, gd l i = x := ⟨_, rfl⟩
                    obtain ⟨xj, hxj⟩ : ∃ x, gd l j = x := ⟨_, rfl⟩
                    have ci : V.cell? ⟨g, i, none⟩ = some (.int .u64 xi) := by rw [← hxi]; exact U2.out.cell hin
                    have cj : V.cell? ⟨g, j, none⟩ = some (.int .u64 xj) := by rw [← hxj]; exact U2.out.cell hjn
                    have fi := U2.out.frz i
                    have fj := U2.out.frz j
                    have U3 := hid (U2.out.set hin xj)
                    have cj3 := U3.out.cell hjn
                    have fj3 := U3.out.frz j
                    have HSW := hid (Sp.swap (F := fun l => Go.Sort.partLoop lt a (i + 1) (j - 1) l.toArray = RR) P1.out U2.out K2.out hin hjn)
                    rw [hxi, hxj] at HSW
                    refine wp_region_held_drew (S := fun _ => True) (by kernel_rfl) trivial (fun _ => ?_)
                    rw [hV]
                    clear hV hxi hxj
                    refine' wpAnyH_take (i := 0) (oi := _) (v := _) rfl (by kernel_rfl) (by kernel_rfl) (by kernel_rfl) (fun _ _ _ h => h) (Or.inl ⟨by kernel_rfl, ?_⟩) (by trivial) ?_
                    rotate_left
                    · (intro w hSw; go_simp; try (with_reducible rfl))
                    try simp only [List.getElem_toArray, List.getElem_cons_succ, List.getElem_cons_zero, Act.put, List.setIfInBounds_toArray, List.set_cons_zero, List.set_cons_succ]
                    refine' wpAnyH_take (i := 1) (oi := _) (v := _) rfl (by kernel_rfl) (by kernel_rfl) (by kernel_rfl) (fun _ _ _ h => h) (Or.inl ⟨by kernel_rfl, ?_⟩) (by trivial) ?_
                    rotate_left
                    · (intro w hSw; go_simp; try (with_reducible rfl))
                    try simp only [List.getElem_toArray, List.getElem_cons_succ, List.getElem_cons_zero, Act.put, List.setIfInBounds_toArray, List.set_cons_zero, List.set_cons_succ]
                    refine' wpAnyH_take (i := 2) (oi := _) (v := _) rfl (by kernel_rfl) (by kernel_rfl) (by kernel_rfl) (fun _ _ _ h => h) (Or.inl ⟨by kernel_rfl, ?_⟩) (by trivial) ?_
                    rotate_left
                    · (intro w hSw; go_simp; try (with_reducible rfl))
                    try simp only [List.getElem_toArray, List.getElem_cons_succ, List.getElem_cons_zero, Act.put, List.setIfInBounds_toArray, List.set_cons_zero, List.set_cons_succ]
                    refine' wpAnyH_take (i := 3) (oi := _) (v := _) rfl (by kernel_rfl) (by kernel_rfl) (by kernel_rfl) (fun _ _ _ h => h) (Or.inl ⟨by kernel_rfl, ?_⟩) (by trivial) ?_
                    rotate_left
                    · (intro w hSw; go_simp; try (with_reducible rfl))
                    try simp only [List.getElem_toArray, List.getElem_cons_succ, List.getElem_cons_zero, Act.put, List.setIfInBounds_toArray, List.set_cons_zero, List.set_cons_succ]
                    refine' wpAnyH_take (i := 4) (oi := _) (v := _) rfl (by kernel_rfl) (by kernel_rfl) (by kernel_rfl) (fun _ _ _ h => h) (Or.inl ⟨by kernel_rfl, ?_⟩) (by trivial) ?_
                    rotate_left
                    · (intro w hSw; go_simp; try (with_reducible rfl))
                    try simp only [List.getElem_toArray, List.getElem_cons_succ, List.getElem_cons_zero, Act.put, List.setIfInBounds_toArray, List.set_cons_zero, List.set_cons_succ]
                    refine' wpAnyH_take (i := 5) (oi := _) (v := _) rfl (by kernel_rfl) (by kernel_rfl) (by kernel_rfl) (fun _ _ _ h => h) (Or.inl ⟨by kernel_rfl, ?_⟩) (by trivial) ?_
                    rotate_left
                    · (intro w hSw; go_simp; try (with_reducible rfl))
                    try simp only [List.getElem_toArray, List.getElem_cons_succ, List.getElem_cons_zero, Act.put, List.setIfInBounds_toArray, List.set_cons_zero, List.set_cons_succ]
                    refine' wpAnyH_take (i := 6) (oi := _) (v := _) rfl (by kernel_rfl) (by kernel_rfl) (by kernel_rfl) (fun _ _ _ h => h) (Or.inl ⟨by kernel_rfl, ?_⟩) (by trivial) ?_
                    rotate_left
                    · (intro w hSw; go_simp; try (with_reducible rfl))
                    try simp only [List.getElem_toArray, List.getElem_cons_succ, List.getElem_cons_zero, Act.put, List.setIfInBounds_toArray, List.set_cons_zero, List.set_cons_succ]
                    refine' wpAnyH_take (i := 8) (oi := _) (v := _) rfl (by kernel_rfl) (by kernel_rfl) (by kernel_rfl) (fun _ _ _ h => h) (Or.inl ⟨by kernel_rfl, ?_⟩) (by trivial) ?_
                    rotate_left
                    · (intro w hSw; go_simp; try (with_reducible rfl))
                    try simp only [List.getElem_toArray, List.getElem_cons_succ, List.getElem_cons_zero, Act.put, List.setIfInBounds_toArray, List.set_cons_zero, List.set_cons_succ]
                    refine' wpAnyH_take (i := 9) (oi := _) (v := _) rfl (by kernel_rfl) (by kernel_rfl) (by kernel_rfl) (fun _ _ _ h => h) (Or.inl ⟨by kernel_rfl, ?_⟩) (by trivial) ?_
                    rotate_left
                    · (intro w hSw; go_simp; try (with_reducible rfl))
                    try simp only [List.getElem_toArray, List.getElem_cons_succ, List.getElem_cons_zero, Act.put, List.setIfInBounds_toArray, List.set_cons_zero, List.set_cons_succ]
                    refine' wpAnyH_take (i := 10) (oi := _) (v := _) rfl (by kernel_rfl) (by kernel_rfl) (by kernel_rfl) (fun _ _ _ h => h) (Or.inl ⟨by kernel_rfl, ?_⟩) (by trivial) ?_
                    rotate_left
                    · (intro w hSw; go_simp; try (with_reducible rfl))
                    try simp only [List.getElem_toArray, List.getElem_cons_succ, List.getElem_cons_zero, Act.put, List.setIfInBounds_toArray, List.set_cons_zero, List.set_cons_succ]
                    refine wpAnyH_ready (rs := [7, 11]) (by kernel_rfl) (by simp) ?_
                    refine (AllReadyH.cons (o := _) rfl (fun K hK => ?_) (AllReadyH.cons (o := _) rfl (fun K hK => ?_) AllReadyH.nil))
                    · go_simp
                      refine hK.out _ _ trivial (fun _ => ?_)
                      clear hK K
                      try simp only [List.getElem_toArray, List.getElem_cons_succ, List.getElem_cons_zero, Act.put, List.setIfInBounds_toArray, List.set_cons_zero, List.set_cons_succ]
                      refine wpAnyH_ready (rs := [11]) (by kernel_rfl) (by simp) ?_
                      refine (AllReadyH.cons (o := _) rfl (fun K hK => ?_) AllReadyH.nil)
                      go_simp
                      refine hK.out _ _ trivial (fun _ => ?_)
                      clear hK K
                      try simp only [List.getElem_toArray, List.getElem_cons_succ, List.getElem_cons_zero, Act.put, List.setIfInBounds_toArray, List.set_cons_zero, List.set_cons_succ]
                      refine' wpAnyH_take (i := 12) (oi := _) (v := _) rfl (by kernel_rfl) (by kernel_rfl) (by kernel_rfl) (fun _ _ _ h => h) (Or.inl ⟨by kernel_rfl, ?_⟩) (by trivial) ?_
                      rotate_left
                      · (intro w hSw; go_simp; try (with_reducible rfl))
                      try simp only [List.getElem_toArray, List.getElem_cons_succ, List.getElem_cons_zero, Act.put, List.setIfInBounds_toArray, List.set_cons_zero, List.set_cons_succ]
                      refine wpAnyH_ready (rs := [13]) (by kernel_rfl) (by simp) ?_
                      refine (AllReadyH.cons (o := _) rfl (fun K hK => ?_) AllReadyH.nil)
                      go_simp
                      refine hK.out _ _ trivial (fun _ => ?_)
                      clear hK K
                      try simp only [List.getElem_toArray, List.getElem_cons_succ, List.getElem_cons_zero, Act.put, List.setIfInBounds_toArray, List.set_cons_zero, List.set_cons_succ]
                      refine' wpAnyH_take (i := 14) (oi := _) (v := _) rfl (by kernel_rfl) (by kernel_rfl) (by kernel_rfl) (fun _ _ _ h => h) (Or.inl ⟨by kernel_rfl, ?_⟩) (by trivial) ?_
                      rotate_left
                      · (intro w hSw; go_simp; try (with_reducible rfl))
                      try simp only [List.getElem_toArray, List.getElem_cons_succ, List.getElem_cons_zero, Act.put, List.setIfInBounds_toArray, List.set_cons_zero, List.set_cons_succ]
                      refine wpAnyH_ready (rs := [15]) (by kernel_rfl) (by simp) ?_
                      refine (AllReadyH.cons (o := _) rfl (fun K hK => ?_) AllReadyH.nil)
                      go_simp
                      refine hK.out _ _ trivial (fun _ => ?_)
                      clear hK K
                      try simp only [List.getElem_toArray, List.getElem_cons_succ, List.getElem_cons_zero, Act.put, List.setIfInBounds_toArray, List.set_cons_zero, List.set_cons_succ]
                      refine wpAnyH_done (by kernel_rfl) ?_ _
                      exact ⟨by kernel_rfl, HSW⟩
                    · go_simp
                      refine hK.out _ _ trivial (fun _ => ?_)
                      clear hK K
                      try simp only [List.getElem_toArray, List.getElem_cons_succ, List.getElem_cons_zero, Act.put, List.setIfInBounds_toArray, List.set_cons_zero, List.set_cons_succ]
                      refine wpAnyH_ready (rs := [7]) (by kernel_rfl) (by simp) ?_
                      refine (AllReadyH.cons (o := _) rfl (fun K hK => ?_) AllReadyH.nil)
                      go_simp
                      refine hK.out _ _ trivial (fun _ => ?_)
                      clear hK K
                      try simp only [List.getElem_toArray, List.getElem_cons_succ, List.getElem_cons_zero, Act.put, List.setIfInBounds_toArray, List.set_cons_zero, List.set_cons_succ]
                      refine' wpAnyH_take (i := 12) (oi := _) (v := _) rfl (by kernel_rfl) (by kernel_rfl) (by kernel_rfl) (fun _ _ _ h => h) (Or.inl ⟨by kernel_rfl, ?_⟩) (by trivial) ?_
                      rotate_left
                      · (intro w hSw; go_simp; try (with_reducible rfl))
                      try simp only [List.getElem_toArray, List.getElem_cons_succ, List.getElem_cons_zero, Act.put, List.setIfInBounds_toArray, List.set_cons_zero, List.set_cons_succ]
                      refine wpAnyH_ready (rs := [13]) (by kernel_rfl) (by simp) ?_
                      refine (AllReadyH.cons (o := _) rfl (fun K hK => ?_) AllReadyH.nil)
                      go_simp
                      refine hK.out _ _ trivial (fun _ => ?_)
                      clear hK K
                      try simp only [List.getElem_toArray, List.getElem_cons_succ, List.getElem_cons_zero, Act.put, List.setIfInBounds_toArray, List.set_cons_zero, List.set_cons_succ]
                      refine' wpAnyH_take (i := 14) (oi := _) (v := _) rfl (by kernel_rfl) (by kernel_rfl) (by kernel_rfl) (fun _ _ _ h => h) (Or.inl ⟨by kernel_rfl, ?_⟩) (by trivial) ?_
                      rotate_left
                      · (intro w hSw; go_simp; try (with_reducible rfl))
                      try simp only [List.getElem_toArray, List.getElem_cons_succ, List.getElem_cons_zero, Act.put, List.setIfInBounds_toArray, List.set_cons_zero, List.set_cons_succ]
                      refine wpAnyH_ready (rs := [15]) (by kernel_rfl) (by simp) ?_
                      refine (AllReadyH.cons (o := _) rfl (fun K hK => ?_) AllReadyH.nil)
                      go_simp
                      refine hK.out _ _ trivial (fun _ => ?_)
                      clear hK K
                      try simp only [List.getElem_toArray, List.getElem_cons_succ, List.getElem_cons_zero, Act.put, List.setIfInBounds_toArray, List.set_cons_zero, List.set_cons_succ]
                      refine wpAnyH_done (by kernel_rfl) ?_ _
                      exact ⟨by kernel_rfl, HSW⟩
                  · intro t X HS
                    simp only [puts, List.foldl_cons, List.foldl_nil, Act.put, List.setIfInBounds_toArray, List.set_cons_zero, List.set_cons_succ]
                    have wi : IntKind.i64.wrap ((i : Int) + 1) = ((i + 1 : Nat) : Int) := by rw [IntKind.wrap_i64]; omega
                    obtain ⟨q, hq⟩ : ∃ q, j = q + 1 := ⟨j - 1, by omega⟩
                    have wj : IntKind.i64.wrap ((j : Int) - 1) = (q : Int) := by rw [IntKind.wrap_i64]; omega
                    rw [show j - 1 = q by omega] at HS
                    have HQQ := hid hq
                    clear hq
                    go_upto_region 13 with fail
                    go_loopw [10, 11] (fun iv jv wr => ∃ i j : Nat, iv = .int .i64 i ∧ jv = .int .i64 j ∧ a < i ∧ i ≤ b ∧ a ≤ j ∧ j < b ∧ Hid (Sp w0 wr g n (fun l => Go.Sort.partLoop lt a i j l.toArray = RR))) (fun _ jv _ => (intOf jv).toNat)
                    case atStart => exact ⟨i + 1, q, rfl, rfl, by omega, by omega, by have := HQQ.out; omega, by have := HQQ.out; omega, HS⟩
                    case round =>
                      clear HS
                      obtain ⟨i, j, rfl, rfl, i0, i1, j0, j1, HS⟩ := hrel
                      clear HQQ
                      go_upto_region 13 with fail
                      go_loopw [10] (fun iv wr => ∃ i' : Nat, iv = .int .i64 i' ∧ i ≤ i' ∧ i' ≤ b ∧ Hid (Sp w0 wr g n (fun l => Go.Sort.partLoop lt a i' j l.toArray = RR))) (fun iv _ => b + 1 - (intOf iv).toNat)
                      case atStart => exact ⟨i, rfl, by omega, by omega, HS⟩
                      case round =>
                        clear HS
                        obtain ⟨i', rfl, i0, i1, HS⟩ := hrel
                        go_upto_region 13 with fail
                        refine reg_any3 [99, 100, 101, 102, 103, 104, 105, 106, 107, 108, 109, 110, 111, 112] (fun t X => Hid (∃ β : Bool, t 112 = .bool β ∧ (β = true → (i' ≤ j) ∧ Sp w0 X g n (fun l => Go.Sort.partLoop lt a (i' + 1) j l.toArray = RR)) ∧ (β = false → Sp w0 X g n (fun l => ptD a i' j l.toArray = RR)))) ?_ ?_
                        · by_cases hle : i' ≤ j
                          · have ile : (i' : Int) ≤ (j : Int) := by omega
                            obtain ⟨l, p1, u1, k1⟩ := HS.out
                            have U1 := hid u1
                            have K1 := hid k1
                            have HP := hid (show ((decide (gd l i' < gd l a)) = true → (fun l => Go.Sort.partLoop lt a (i' + 1) j l.toArray = RR) l) ∧ ((decide (gd l i' < gd l a)) = false → (fun l => ptD a i' j l.toArray = RR) l) from pt_u hle p1)
                            obtain ⟨y, hy⟩ : ∃ y, gd l i' = y := ⟨_, rfl⟩
                            have cy : wr.cell? ⟨g, i', none⟩ = some (.int .u64 y) := by rw [← hy]; exact u1.cell (by omega)
                            rw [hy] at HP
                            clear hy
                            obtain ⟨z, hz⟩ : ∃ y, gd l a = y := ⟨_, rfl⟩
                            have cz : wr.cell? ⟨g, a, none⟩ = some (.int .u64 z) := by rw [← hz]; exact u1.cell (by omega)
                            rw [hz] at HP
                            clear hz
                            clear p1 u1 k1
                            have a0' : (0 : Int) ≤ (a : Int) := by omega
                            have a2 : (a : Int) < (n : Int) := by omega
                            have j0' : (0 : Int) ≤ (j : Int) := by omega
                            have j2 : (j : Int) < (n : Int) := by omega
                            have ii0 : (0 : Int) ≤ (i' : Int) := (by omega)
                            have ii2 : (i' : Int) < (n : Int) := (by omega)
                            have HLE := hid hle
                            clear hle
                            go_quiet (first | (go_at_call 63; with_reducible exact Calls.quiet_of_same (less_any _ _ _)))
                            exact ⟨by kernel_rfl, hid ⟨_, by rfl, fun hb => ⟨HLE.out, l, HP.out.1 hb, U1.out.same (w' := wr.drewN nq) rfl, K1.out.trans (Kp.drewN _ wr nq) (fun _ _ e => e)⟩, fun hb => ⟨l, HP.out.2 hb, U1.out.same (w' := wr.drewN nq) rfl, K1.out.trans (Kp.drewN _ wr nq) (fun _ _ e => e)⟩⟩⟩
                          · have HPN := hid (HS.out.mono (G := fun l => ptD a i' j l.toArray = RR) (fun l _ hl => pt_un hle hl))
                            have ilN : decide (i' ≤ j) = false := decide_eq_false hle
                            have ile' : ¬ (i' : Int) ≤ (j : Int) := by omega
                            have ile : decide ((i' : Int) ≤ (j : Int)) = false := decide_eq_false (by omega)
                            go_quiet (first | (go_at_call 63; with_reducible exact Calls.quiet_of_same (less_any _ _ _)))
                            exact ⟨by kernel_rfl, hid ⟨false, by rfl, (fun e => by cases e), fun _ => HPN.out.drewN nq⟩⟩
                        · rintro t X HB
                          obtain ⟨β, eβ, hβ, hγ⟩ := HB.out
                          simp only [puts, List.foldl_cons, List.foldl_nil, Act.put, List.setIfInBounds_toArray, List.set_cons_zero, List.set_cons_succ]
                          rw [eβ]
                          clear eβ HB
                          have wi : IntKind.i64.wrap ((i' : Int) + 1) = ((i' + 1 : Nat) : Int) := by rw [IntKind.wrap_i64]; omega
                          cases β with
                          | true =>
                            have HSX := hid (hβ rfl).2
                            have hβ' := (hβ rfl).1
                            clear hβ hγ HS
                            go_wp2
                            go_roundw
                            case rel => exact ⟨i' + 1, by go_num, by omega, by omega, HSX⟩
                            case measure => first | (simp [intOf]; done) | (simp [intOf]; omega)
                          | false =>
                            have HSX := hid (hγ rfl)
                            clear hβ hγ HS wi
                            have HS := HSX
                            clear HSX
                            obtain ⟨i, hi⟩ : ∃ k, i' = k := ⟨_, rfl⟩
                            rw [hi] at i0 i1 HS ⊢
                            clear hi
                            go_upto_region 15 with fail
                            go_loopw [11] (fun jv wr => ∃ j' : Nat, jv = .int .i64 j' ∧ a ≤ j' ∧ j' < b ∧ j' ≤ j ∧ Hid (Sp w0 wr g n (fun l => ptD a i j' l.toArray = RR))) (fun jv _ => (intOf jv).toNat)
                            case atStart => exact ⟨j, rfl, by omega, by omega, by omega, HS⟩
                            case round =>
                              clear HS
                              obtain ⟨j', rfl, jj0, jj1, jj2, HS⟩ := hrel
                              go_upto_region 15 with fail
                              refine reg_any3 [115, 116, 117, 118, 119, 120, 121, 122, 123, 124, 125, 126, 127, 128, 129] (fun t X => Hid (∃ β : Bool, t 129 = .bool β ∧ (β = true → (i ≤ j') ∧ Sp w0 X g n (fun l => ptD a i (j' - 1) l.toArray = RR)) ∧ (β = false → Sp w0 X g n (fun l => ptE a i j' l.toArray = RR)))) ?_ ?_
                              · by_cases hle : i ≤ j'
                                · have ile : (i : Int) ≤ (j' : Int) := by omega
                                  obtain ⟨l, p1, u1, k1⟩ := HS.out
                                  have U1 := hid u1
                                  have K1 := hid k1
                                  have HP := hid (show (((!decide (gd l j' < gd l a))) = true → (fun l => ptD a i (j' - 1) l.toArray = RR) l) ∧ (((!decide (gd l j' < gd l a))) = false → (fun l => ptE a i j' l.toArray = RR) l) from pt_d hle (by omega) p1)
                                  obtain ⟨z, hz⟩ : ∃ y, gd l j' = y := ⟨_, rfl⟩
                                  have cz : wr.cell? ⟨g, j', none⟩ = some (.int .u64 z) := by rw [← hz]; exact u1.cell (by omega)
                                  rw [hz] at HP
                                  clear hz
                                  obtain ⟨y, hy⟩ : ∃ y, gd l a = y := ⟨_, rfl⟩
                                  have cy : wr.cell? ⟨g, a, none⟩ = some (.int .u64 y) := by rw [← hy]; exact u1.cell (by omega)
                                  rw [hy] at HP
                                  clear hy
                                  clear p1 u1 k1
                                  have a0' : (0 : Int) ≤ (a : Int) := by omega
                                  have a2 : (a : Int) < (n : Int) := by omega
                                  have ii0 : (0 : Int) ≤ (j' : Int) := (by omega)
                                  have ii2 : (j' : Int) < (n : Int) := (by omega)
                                  have HLE := hid hle
                                  clear hle
                                  go_quiet (first | (go_at_call 63; with_reducible exact Calls.quiet_of_same (less_any _ _ _)))
                                  exact ⟨by kernel_rfl, hid ⟨_, by rfl, fun hb => ⟨HLE.out, l, HP.out.1 hb, U1.out.same (w' := wr.drewN nq) rfl, K1.out.trans (Kp.drewN _ wr nq) (fun _ _ e => e)⟩, fun hb => ⟨l, HP.out.2 hb, U1.out.same (w' := wr.drewN nq) rfl, K1.out.trans (Kp.drewN _ wr nq) (fun _ _ e => e)⟩⟩⟩
                                · have HPN := hid (HS.out.mono (G := fun l => ptE a i j' l.toArray = RR) (fun l _ hl => pt_dn hle hl))
                                  have ilN : decide (i ≤ j') = false := decide_eq_false hle
                                  have ile' : ¬ (i : Int) ≤ (j' : Int) := by omega
                                  have ile : decide ((i : Int) ≤ (j' : Int)) = false := decide_eq_false (by omega)
                                  go_quiet (first | (go_at_call 63; with_reducible exact Calls.quiet_of_same (less_any _ _ _)))
                                  exact ⟨by kernel_rfl, hid ⟨false, by rfl, (fun e => by cases e), fun _ => HPN.out.drewN nq⟩⟩
                              · rintro t X HB
                                obtain ⟨β, eβ, hβ, hγ⟩ := HB.out
                                simp only [puts, List.foldl_cons, List.foldl_nil, Act.put, List.setIfInBounds_toArray, List.set_cons_zero, List.set_cons_succ]
                                rw [eβ]
                                clear eβ HB
                                cases β with
                                | true =>
                                  have HSX := hid (hβ rfl).2
                                  have hβ' := (hβ rfl).1
                                  clear hβ hγ HS
                                  obtain ⟨q, hq⟩ : ∃ q, j' = q + 1 := ⟨j' - 1, by omega⟩
                                  have wj : IntKind.i64.wrap ((j' : Int) - 1) = (q : Int) := by rw [IntKind.wrap_i64]; omega
                                  rw [show j' - 1 = q by omega] at HSX
                                  have HQQ := hid hq
                                  clear hq
                                  go_wp2
                                  go_roundw
                                  case rel => exact ⟨q, by go_num, by have := HQQ.out; omega, by have := HQQ.out; omega, by have := HQQ.out; omega, HSX⟩
                                  case measure => have := HQQ.out; first | (simp [intOf]; done) | (simp [intOf]; omega)
                                | false =>
                                  have HSX := hid (hγ rfl)
                                  clear hβ hγ HS
                                  have HS := HSX
                                  clear HSX
                                  obtain ⟨j, hj⟩ : ∃ k, j' = k := ⟨_, rfl⟩
                                  rw [hj] at jj0 jj1 jj2 HS ⊢
                                  clear hj
                                  by_cases hij : j < i
                                  · have iij : (j : Int) < (i : Int) := by omega
                                    obtain ⟨l, p1, u1, k1⟩ := HS.out
                                    have HJ := hid (show j = RR.1 by rw [← pt_f hij p1])
                                    have P1 := hid (show (fun l => l.toArray = Go.Sort.swp RR.2 RR.1 a) (sw l j a) from by show (sw l j a).toArray = _; rw [sw_arr, ← pt_f hij p1])
                                    have U1 := hid u1
                                    have K1 := hid k1
                                    have hin : j < n := by omega
                                    have hjn : a < n := by omega
                                    have sj0 : (0 : Int) ≤ (j : Int) := by omega
                                    have sj2 : (j : Int) < (n : Int) := by omega
                                    have sa0 : (0 : Int) ≤ (a : Int) := by omega
                                    have sa2 : (a : Int) < (n : Int) := by omega
                                    clear p1 u1 k1 HS
                                    go_upto_region 21 with fail
                                    refine reg_any [153, 154, 155, 156, 157, 158, 159, 160, 161, 162, 163, 164, 165, 166] (fun X => Hid (Sp w0 X g n (fun l => l.toArray = Go.Sort.swp RR.2 RR.1 a))) ?_ ?_
                                    · have U2 := hid (U1.out.same (w' := X.drew) rfl)
                                      have K2 := hid (K1.out.trans (Kp.drew _ X) (fun _ _ e => e))
                                      obtain ⟨V, hV⟩ : ∃ U, X.drew = U := ⟨_, rfl⟩
                                      rw [hV] at U2 K2
                                      obtain ⟨xi, hxi⟩ : ∃ x, gd l j = x := ⟨_, rfl⟩
                                      obtain ⟨xj, hxj⟩ : ∃ x, gd l a = x := ⟨_, rfl⟩
                                      have ci : V.cell? ⟨g, j, none⟩ = some (.int .u64 xi) := by rw [← hxi]; exact U2.out.cell hin
                                      have cj : V.cell? ⟨g, a, none⟩ = some (.int .u64 xj) := by rw [← hxj]; exact U2.out.cell hjn
                                      have fi := U2.out.frz j
                                      have fj := U2.out.frz a
                                      have U3 := hid (U2.out.set hin xj)
                                      have cj3 := U3.out.cell hjn
                                      have fj3 := U3.out.frz a
                                      have HSW := hid (Sp.swap (F := fun l => l.toArray = Go.Sort.swp RR.2 RR.1 a) P1.out U2.out K2.out hin hjn)
                                      rw [hxi, hxj] at HSW
                                      refine wp_region_held_drew (S := fun _ => True) (by kernel_rfl) trivial (fun _ => ?_)
                                      rw [hV]
                                      clear hV hxi hxj
                                      refine' wpAnyH_take (i := 0) (oi := _) (v := _) rfl (by kernel_rfl) (by kernel_rfl) (by kernel_rfl) (fun _ _ _ h => h) (Or.inl ⟨by kernel_rfl, ?_⟩) (by trivial) ?_
                                      rotate_left
                                      · (intro w hSw; go_simp; try (with_reducible rfl))
                                      try simp only [List.getElem_toArray, List.getElem_cons_succ, List.getElem_cons_zero, Act.put, List.setIfInBounds_toArray, List.set_cons_zero, List.set_cons_succ]
                                      refine' wpAnyH_take (i := 1) (oi := _) (v := _) rfl (by kernel_rfl) (by kernel_rfl) (by kernel_rfl) (fun _ _ _ h => h) (Or.inl ⟨by kernel_rfl, ?_⟩) (by trivial) ?_
                                      rotate_left
                                      · (intro w hSw; go_simp; try (with_reducible rfl))
                                      try simp only [List.getElem_toArray, List.getElem_cons_succ, List.getElem_cons_zero, Act.put, List.setIfInBounds_toArray, List.set_cons_zero, List.set_cons_succ]
                                      refine' wpAnyH_take (i := 2) (oi := _) (v := _) rfl (by kernel_rfl) (by kernel_rfl) (by kernel_rfl) (fun _ _ _ h => h) (Or.inl ⟨by kernel_rfl, ?_⟩) (by trivial) ?_
                                      rotate_left
                                      · (intro w hSw; go_simp; try (with_reducible rfl))
                                      try simp only [List.getElem_toArray, List.getElem_cons_succ, List.getElem_cons_zero, Act.put, List.setIfInBounds_toArray, List.set_cons_zero, List.set_cons_succ]
                                      refine' wpAnyH_take (i := 3) (oi := _) (v := _) rfl (by kernel_rfl) (by kernel_rfl) (by kernel_rfl) (fun _ _ _ h => h) (Or.inl ⟨by kernel_rfl, ?_⟩) (by trivial) ?_
                                      rotate_left
                                      · (intro w hSw; go_simp; try (with_reducible rfl))
                                      try simp only [List.getElem_toArray, List.getElem_cons_succ, List.getElem_cons_zero, Act.put, List.setIfInBounds_toArray, List.set_cons_zero, List.set_cons_succ]
                                      refine' wpAnyH_take (i := 4) (oi := _) (v := _) rfl (by kernel_rfl) (by kernel_rfl) (by kernel_rfl) (fun _ _ _ h => h) (Or.inl ⟨by kernel_rfl, ?_⟩) (by trivial) ?_
                                      rotate_left
                                      · (intro w hSw; go_simp; try (with_reducible rfl))
                                      try simp only [List.getElem_toArray, List.getElem_cons_succ, List.getElem_cons_zero, Act.put, List.setIfInBounds_toArray, List.set_cons_zero, List.set_cons_succ]
                                      refine' wpAnyH_take (i := 5) (oi := _) (v := _) rfl (by kernel_rfl) (by kernel_rfl) (by kernel_rfl) (fun _ _ _ h => h) (Or.inl ⟨by kernel_rfl, ?_⟩) (by trivial) ?_
                                      rotate_left
                                      · (intro w hSw; go_simp; try (with_reducible rfl))
                                      try simp only [List.getElem_toArray, List.getElem_cons_succ, List.getElem_cons_zero, Act.put, List.setIfInBounds_toArray, List.set_cons_zero, List.set_cons_succ]
                                      refine' wpAnyH_take (i := 6) (oi := _) (v := _) rfl (by kernel_rfl) (by kernel_rfl) (by kernel_rfl) (fun _ _ _ h => h) (Or.inl ⟨by kernel_rfl, ?_⟩) (by trivial) ?_
                                      rotate_left
                                      · (intro w hSw; go_simp; try (with_reducible rfl))
                                      try simp only [List.getElem_toArray, List.getElem_cons_succ, List.getElem_cons_zero, Act.put, List.setIfInBounds_toArray, List.set_cons_zero, List.set_cons_succ]
                                      refine' wpAnyH_take (i := 8) (oi := _) (v := _) rfl (by kernel_rfl) (by kernel_rfl) (by kernel_rfl) (fun _ _ _ h => h) (Or.inl ⟨by kernel_rfl, ?_⟩) (by trivial) ?_
                                      rotate_left
                                      · (intro w hSw; go_simp; try (with_reducible rfl))
                                      try simp only [List.getElem_toArray, List.getElem_cons_succ, List.getElem_cons_zero, Act.put, List.setIfInBounds_toArray, List.set_cons_zero, List.set_cons_succ]
                                      refine' wpAnyH_take (i := 9) (oi := _) (v := _) rfl (by kernel_rfl) (by kernel_rfl) (by kernel_rfl) (fun _ _ _ h => h) (Or.inl ⟨by kernel_rfl, ?_⟩) (by trivial) ?_
                                      rotate_left
                                      · (intro w hSw; go_simp; try (with_reducible rfl))
                                      try simp only [List.getElem_toArray, List.getElem_cons_succ, List.getElem_cons_zero, Act.put, List.setIfInBounds_toArray, List.set_cons_zero, List.set_cons_succ]
                                      refine' wpAnyH_take (i := 10) (oi := _) (v := _) rfl (by kernel_rfl) (by kernel_rfl) (by kernel_rfl) (fun _ _ _ h => h) (Or.inl ⟨by kernel_rfl, ?_⟩) (by trivial) ?_
                                      rotate_left
                                      · (intro w hSw; go_simp; try (with_reducible rfl))
                                      try simp only [List.getElem_toArray, List.getElem_cons_succ, List.getElem_cons_zero, Act.put, List.setIfInBounds_toArray, List.set_cons_zero, List.set_cons_succ]
                                      refine wpAnyH_ready (rs := [7, 11]) (by kernel_rfl) (by simp) ?_
                                      refine (AllReadyH.cons (o := _) rfl (fun K hK => ?_) (AllReadyH.cons (o := _) rfl (fun K hK => ?_) AllReadyH.nil))
                                      · go_simp
                                        refine hK.out _ _ trivial (fun _ => ?_)
                                        clear hK K
                                        try simp only [List.getElem_toArray, List.getElem_cons_succ, List.getElem_cons_zero, Act.put, List.setIfInBounds_toArray, List.set_cons_zero, List.set_cons_succ]
                                        refine wpAnyH_ready (rs := [11]) (by kernel_rfl) (by simp) ?_
                                        refine (AllReadyH.cons (o := _) rfl (fun K hK => ?_) AllReadyH.nil)
                                        go_simp
                                        refine hK.out _ _ trivial (fun _ => ?_)
                                        clear hK K
                                        try simp only [List.getElem_toArray, List.getElem_cons_succ, List.getElem_cons_zero, Act.put, List.setIfInBounds_toArray, List.set_cons_zero, List.set_cons_succ]
                                        refine' wpAnyH_take (i := 12) (oi := _) (v := _) rfl (by kernel_rfl) (by kernel_rfl) (by kernel_rfl) (fun _ _ _ h => h) (Or.inl ⟨by kernel_rfl, ?_⟩) (by trivial) ?_
                                        rotate_left
                                        · (intro w hSw; go_simp; try (with_reducible rfl))
                                        try simp only [List.getElem_toArray, List.getElem_cons_succ, List.getElem_cons_zero, Act.put, List.setIfInBounds_toArray, List.set_cons_zero, List.set_cons_succ]
                                        refine wpAnyH_ready (rs := [13]) (by kernel_rfl) (by simp) ?_
                                        refine (AllReadyH.cons (o := _) rfl (fun K hK => ?_) AllReadyH.nil)
                                        go_simp
                                        refine hK.out _ _ trivial (fun _ => ?_)
                                        clear hK K
                                        try simp only [List.getElem_toArray, List.getElem_cons_succ, List.getElem_cons_zero, Act.put, List.setIfInBounds_toArray, List.set_cons_zero, List.set_cons_succ]
                                        refine' wpAnyH_take (i := 14) (oi := _) (v := _) rfl (by kernel_rfl) (by kernel_rfl) (by kernel_rfl) (fun _ _ _ h => h) (Or.inl ⟨by kernel_rfl, ?_⟩) (by trivial) ?_
                                        rotate_left
                                        · (intro w hSw; go_simp; try (with_reducible rfl))
                                        try simp only [List.getElem_toArray, List.getElem_cons_succ, List.getElem_cons_zero, Act.put, List.setIfInBounds_toArray, List.set_cons_zero, List.set_cons_succ]
                                        refine wpAnyH_ready (rs := [15]) (by kernel_rfl) (by simp) ?_
                                        refine (AllReadyH.cons (o := _) rfl (fun K hK => ?_) AllReadyH.nil)
                                        go_simp
                                        refine hK.out _ _ trivial (fun _ => ?_)
                                        clear hK K
                                        try simp only [List.getElem_toArray, List.getElem_cons_succ, List.getElem_cons_zero, Act.put, List.setIfInBounds_toArray, List.set_cons_zero, List.set_cons_succ]
                                        refine wpAnyH_done (by kernel_rfl) ?_ _
                                        exact ⟨by kernel_rfl, HSW⟩
                                      · go_simp
                                        refine hK.out _ _ trivial (fun _ => ?_)
                                        clear hK K
                                        try simp only [List.getElem_toArray, List.getElem_cons_succ, List.getElem_cons_zero, Act.put, List.setIfInBounds_toArray, List.set_cons_zero, List.set_cons_succ]
                                        refine wpAnyH_ready (rs := [7]) (by kernel_rfl) (by simp) ?_
                                        refine (AllReadyH.cons (o := _) rfl (fun K hK => ?_) AllReadyH.nil)
                                        go_simp
                                        refine hK.out _ _ trivial (fun _ => ?_)
                                        clear hK K
                                        try simp only [List.getElem_toArray, List.getElem_cons_succ, List.getElem_cons_zero, Act.put, List.setIfInBounds_toArray, List.set_cons_zero, List.set_cons_succ]
                                        refine' wpAnyH_take (i := 12) (oi := _) (v := _) rfl (by kernel_rfl) (by kernel_rfl) (by kernel_rfl) (fun _ _ _ h => h) (Or.inl ⟨by kernel_rfl, ?_⟩) (by trivial) ?_
                                        rotate_left
                                        · (intro w hSw; go_simp; try (with_reducible rfl))
                                        try simp only [List.getElem_toArray, List.getElem_cons_succ, List.getElem_cons_zero, Act.put, List.setIfInBounds_toArray, List.set_cons_zero, List.set_cons_succ]
                                        refine wpAnyH_ready (rs := [13]) (by kernel_rfl) (by simp) ?_
                                        refine (AllReadyH.cons (o := _) rfl (fun K hK => ?_) AllReadyH.nil)
                                        go_simp
                                        refine hK.out _ _ trivial (fun _ => ?_)
                                        clear hK K
                                        try simp only [List.getElem_toArray, List.getElem_cons_succ, List.getElem_cons_zero, Act.put, List.setIfInBounds_toArray, List.set_cons_zero, List.set_cons_succ]
                                        refine' wpAnyH_take (i := 14) (oi := _) (v := _) rfl (by kernel_rfl) (by kernel_rfl) (by kernel_rfl) (fun _ _ _ h => h) (Or.inl ⟨by kernel_rfl, ?_⟩) (by trivial) ?_
                                        rotate_left
                                        · (intro w hSw; go_simp; try (with_reducible rfl))
                                        try simp only [List.getElem_toArray, List.getElem_cons_succ, List.getElem_cons_zero, Act.put, List.setIfInBounds_toArray, List.set_cons_zero, List.set_cons_succ]
                                        refine wpAnyH_ready (rs := [15]) (by kernel_rfl) (by simp) ?_
                                        refine (AllReadyH.cons (o := _) rfl (fun K hK => ?_) AllReadyH.nil)
                                        go_simp
                                        refine hK.out _ _ trivial (fun _ => ?_)
                                        clear hK K
                                        try simp only [List.getElem_toArray, List.getElem_cons_succ, List.getElem_cons_zero, Act.put, List.setIfInBounds_toArray, List.set_cons_zero, List.set_cons_succ]
                                        refine wpAnyH_done (by kernel_rfl) ?_ _
                                        exact ⟨by kernel_rfl, HSW⟩
                                    · intro t X HS
                                      simp only [puts, List.foldl_cons, List.foldl_nil, Act.put, List.setIfInBounds_toArray, List.set_cons_zero, List.set_cons_succ]
                                      go_wp2
                                      go_ret2
                                      first | exact ⟨j, false, rfl, HJ.out, HS.out⟩ | exact ⟨j, rfl, HJ.out, HS.out⟩ | exact ⟨j, .inl rfl, HJ.out, HS.out⟩ | exact ⟨j, .inr rfl, HJ.out, HS.out⟩
                                  · have iij : decide ((j : Int) < (i : Int)) = false := decide_eq_false (by omega)
                                    obtain ⟨l, p1, u1, k1⟩ := HS.out
                                    have P1 := hid (show (fun l => Go.Sort.partLoop lt a (i + 1) (j - 1) l.toArray = RR) (sw l i j) from pt_e hij p1)
                                    have U1 := hid u1
                                    have K1 := hid k1
                                    have hin : i < n := by omega
                                    have hjn : j < n := by omega
                                    have si0 : (0 : Int) ≤ (i : Int) := by omega
                                    have si2 : (i : Int) < (n : Int) := by omega
                                    have sj0 : (0 : Int) ≤ (j : Int) := by omega
                                    have sj2 : (j : Int) < (n : Int) := by omega
                                    clear p1 u1 k1 HS
                                    go_upto_region 18 with fail
                                    refine reg_any [135, 136, 137, 138, 139, 140, 141, 142, 143, 144, 145, 146, 147, 148] (fun X => Hid (Sp w0 X g n (fun l => Go.Sort.partLoop lt a (i + 1) (j - 1) l.toArray = RR))) ?_ ?_
                                    · have U2 := hid (U1.out.same (w' := X.drew) rfl)
                                      have K2 := hid (K1.out.trans (Kp.drew _ X) (fun _ _ e => e))
                                      obtain ⟨V, hV⟩ : ∃ U, X.drew = U := ⟨_, rfl⟩
                                      rw [hV] at U2 K2
                                      obtain ⟨xi, hxi⟩ : ∃ x, gd l i = x := ⟨_, rfl⟩
                                      obtain ⟨xj, hxj⟩ : ∃ x, gd l j = x := ⟨_, rfl⟩
                                      have ci : V.cell? ⟨g, i, none⟩ = some (.int .u64 xi) := by rw [← hxi]; exact U2.out.cell hin
                                      have cj : V.cell? ⟨g, j, none⟩ = some (.int .u64 xj) := by rw [← hxj]; exact U2.out.cell hjn
                                      have fi := U2.out.frz i
                                      have fj := U2.out.frz j
                                      have U3 := hid (U2.out.set hin xj)
                                      have cj3 := U3.out.cell hjn
                                      have fj3 := U3.out.frz j
                                      have HSW := hid (Sp.swap (F := fun l => Go.Sort.partLoop lt a (i + 1) (j - 1) l.toArray = RR) P1.out U2.out K2.out hin hjn)
                                      rw [hxi, hxj] at HSW
                                      refine wp_region_held_drew (S := fun _ => True) (by kernel_rfl) trivial (fun _ => ?_)
                                      rw [hV]
                                      clear hV hxi hxj
                                      refine' wpAnyH_take (i := 0) (oi := _) (v := _) rfl (by kernel_rfl) (by kernel_rfl) (by kernel_rfl) (fun _ _ _ h => h) (Or.inl ⟨by kernel_rfl, ?_⟩) (by trivial) ?_
                                      rotate_left
                                      · (intro w hSw; go_simp; try (with_reducible rfl))
                                      try simp only [List.getElem_toArray, List.getElem_cons_succ, List.getElem_cons_zero, Act.put, List.setIfInBounds_toArray, List.set_cons_zero, List.set_cons_succ]
                                      refine' wpAnyH_take (i := 1) (oi := _) (v := _) rfl (by kernel_rfl) (by kernel_rfl) (by kernel_rfl) (fun _ _ _ h => h) (Or.inl ⟨by kernel_rfl, ?_⟩) (by trivial) ?_
                                      rotate_left
                                      · (intro w hSw; go_simp; try (with_reducible rfl))
                                      try simp only [List.getElem_toArray, List.getElem_cons_succ, List.getElem_cons_zero, Act.put, List.setIfInBounds_toArray, List.set_cons_zero, List.set_cons_succ]
                                      refine' wpAnyH_take (i := 2) (oi := _) (v := _) rfl (by kernel_rfl) (by kernel_rfl) (by kernel_rfl) (fun _ _ _ h => h) (Or.inl ⟨by kernel_rfl, ?_⟩) (by trivial) ?_
                                      rotate_left
                                      · (intro w hSw; go_simp; try (with_reducible rfl))
                                      try simp only [List.getElem_toArray, List.getElem_cons_succ, List.getElem_cons_zero, Act.put, List.setIfInBounds_toArray, List.set_cons_zero, List.set_cons_succ]
                                      refine' wpAnyH_take (i := 3) (oi := _) (v := _) rfl (by kernel_rfl) (by kernel_rfl) (by kernel_rfl) (fun _ _ _ h => h) (Or.inl ⟨by kernel_rfl, ?_⟩) (by trivial) ?_
                                      rotate_left
                                      · (intro w hSw; go_simp; try (with_reducible rfl))
                                      try simp only [List.getElem_toArray, List.getElem_cons_succ, List.getElem_cons_zero, Act.put, List.setIfInBounds_toArray, List.set_cons_zero, List.set_cons_succ]
                                      refine' wpAnyH_take (i := 4) (oi := _) (v := _) rfl (by kernel_rfl) (by kernel_rfl) (by kernel_rfl) (fun _ _ _ h => h) (Or.inl ⟨by kernel_rfl, ?_⟩) (by trivial) ?_
                                      rotate_left
                                      · (intro w hSw; go_simp; try (with_reducible rfl))
                                      try simp only [List.getElem_toArray, List.getElem_cons_succ, List.getElem_cons_zero, Act.put, List.setIfInBounds_toArray, List.set_cons_zero, List.set_cons_succ]
                                      refine' wpAnyH_take (i := 5) (oi := _) (v := _) rfl (by kernel_rfl) (by kernel_rfl) (by kernel_rfl) (fun _ _ _ h => h) (Or.inl ⟨by kernel_rfl, ?_⟩) (by trivial) ?_
                                      rotate_left
                                      · (intro w hSw; go_simp; try (with_reducible rfl))
                                      try simp only [List.getElem_toArray, List.getElem_cons_succ, List.getElem_cons_zero, Act.put, List.setIfInBounds_toArray, List.set_cons_zero, List.set_cons_succ]
                                      refine' wpAnyH_take (i := 6) (oi := _) (v := _) rfl (by kernel_rfl) (by kernel_rfl) (by kernel_rfl) (fun _ _ _ h => h) (Or.inl ⟨by kernel_rfl, ?_⟩) (by trivial) ?_
                                      rotate_left
                                      · (intro w hSw; go_simp; try (with_reducible rfl))
                                      try simp only [List.getElem_toArray, List.getElem_cons_succ, List.getElem_cons_zero, Act.put, List.setIfInBounds_toArray, List.set_cons_zero, List.set_cons_succ]
                                      refine' wpAnyH_take (i := 8) (oi := _) (v := _) rfl (by kernel_rfl) (by kernel_rfl) (by kernel_rfl) (fun _ _ _ h => h) (Or.inl ⟨by kernel_rfl, ?_⟩) (by trivial) ?_
                                      rotate_left
                                      · (intro w hSw; go_simp; try (with_reducible rfl))
                                      try simp only [List.getElem_toArray, List.getElem_cons_succ, List.getElem_cons_zero, Act.put, List.setIfInBounds_toArray, List.set_cons_zero, List.set_cons_succ]
                                      refine' wpAnyH_take (i := 9) (oi := _) (v := _) rfl (by kernel_rfl) (by kernel_rfl) (by kernel_rfl) (fun _ _ _ h => h) (Or.inl ⟨by kernel_rfl, ?_⟩) (by trivial) ?_
                                      rotate_left
                                      · (intro w hSw; go_simp; try (with_reducible rfl))
                                      try simp only [List.getElem_toArray, List.getElem_cons_succ, List.getElem_cons_zero, Act.put, List.setIfInBounds_toArray, List.set_cons_zero, List.set_cons_succ]
                                      refine' wpAnyH_take (i := 10) (oi := _) (v := _) rfl (by kernel_rfl) (by kernel_rfl) (by kernel_rfl) (fun _ _ _ h => h) (Or.inl ⟨by kernel_rfl, ?_⟩) (by trivial) ?_
                                      rotate_left
                                      · (intro w hSw; go_simp; try (with_reducible rfl))
                                      try simp only [List.getElem_toArray, List.getElem_cons_succ, List.getElem_cons_zero, Act.put, List.setIfInBounds_toArray, List.set_cons_zero, List.set_cons_succ]
                                      refine wpAnyH_ready (rs := [7, 11]) (by kernel_rfl) (by simp) ?_
                                      refine (AllReadyH.cons (o := _) rfl (fun K hK => ?_) (AllReadyH.cons (o := _) rfl (fun K hK => ?_) AllReadyH.nil))
                                      · go_simp
                                        refine hK.out _ _ trivial (fun _ => ?_)
                                        clear hK K
                                        try simp only [List.getElem_toArray, List.getElem_cons_succ, List.getElem_cons_zero, Act.put, List.setIfInBounds_toArray, List.set_cons_zero, List.set_cons_succ]
                                        refine wpAnyH_ready (rs := [11]) (by kernel_rfl) (by simp) ?_
                                        refine (AllReadyH.cons (o := _) rfl (fun K hK => ?_) AllReadyH.nil)
                                        go_simp
                                        refine hK.out _ _ trivial (fun _ => ?_)
                                        clear hK K
                                        try simp only [List.getElem_toArray, List.getElem_cons_succ, List.getElem_cons_zero, Act.put, List.setIfInBounds_toArray, List.set_cons_zero, List.set_cons_succ]
                                        refine' wpAnyH_take (i := 12) (oi := _) (v := _) rfl (by kernel_rfl) (by kernel_rfl) (by kernel_rfl) (fun _ _ _ h => h) (Or.inl ⟨by kernel_rfl, ?_⟩) (by trivial) ?_
                                        rotate_left
                                        · (intro w hSw; go_simp; try (with_reducible rfl))
                                        try simp only [List.getElem_toArray, List.getElem_cons_succ, List.getElem_cons_zero, Act.put, List.setIfInBounds_toArray, List.set_cons_zero, List.set_cons_succ]
                                        refine wpAnyH_ready (rs := [13]) (by kernel_rfl) (by simp) ?_
                                        refine (AllReadyH.cons (o := _) rfl (fun K hK => ?_) AllReadyH.nil)
                                        go_simp
                                        refine hK.out _ _ trivial (fun _ => ?_)
                                        clear hK K
                                        try simp only [List.getElem_toArray, List.getElem_cons_succ, List.getElem_cons_zero, Act.put, List.setIfInBounds_toArray, List.set_cons_zero, List.set_cons_succ]
                                        refine' wpAnyH_take (i := 14) (oi := _) (v := _) rfl (by kernel_rfl) (by kernel_rfl) (by kernel_rfl) (fun _ _ _ h => h) (Or.inl ⟨by kernel_rfl, ?_⟩) (by trivial) ?_
                                        rotate_left
                                        · (intro w hSw; go_simp; try (with_reducible rfl))
                                        try simp only [List.getElem_toArray, List.getElem_cons_succ, List.getElem_cons_zero, Act.put, List.setIfInBounds_toArray, List.set_cons_zero, List.set_cons_succ]
                                        refine wpAnyH_ready (rs := [15]) (by kernel_rfl) (by simp) ?_
                                        refine (AllReadyH.cons (o := _) rfl (fun K hK => ?_) AllReadyH.nil)
                                        go_simp
                                        refine hK.out _ _ trivial (fun _ => ?_)
                                        clear hK K
                                        try simp only [List.getElem_toArray, List.getElem_cons_succ, List.getElem_cons_zero, Act.put, List.setIfInBounds_toArray, List.set_cons_zero, List.set_cons_succ]
                                        refine wpAnyH_done (by kernel_rfl) ?_ _
                                        exact ⟨by kernel_rfl, HSW⟩
                                      · go_simp
                                        refine hK.out _ _ trivial (fun _ => ?_)
                                        clear hK K
                                        try simp only [List.getElem_toArray, List.getElem_cons_succ, List.getElem_cons_zero, Act.put, List.setIfInBounds_toArray, List.set_cons_zero, List.set_cons_succ]
                                        refine wpAnyH_ready (rs := [7]) (by kernel_rfl) (by simp) ?_
                                        refine (AllReadyH.cons (o := _) rfl (fun K hK => ?_) AllReadyH.nil)
                                        go_simp
                                        refine hK.out _ _ trivial (fun _ => ?_)
                                        clear hK K
                                        try simp only [List.getElem_toArray, List.getElem_cons_succ, List.getElem_cons_zero, Act.put, List.setIfInBounds_toArray, List.set_cons_zero, List.set_cons_succ]
                                        refine' wpAnyH_take (i := 12) (oi := _) (v := _) rfl (by kernel_rfl) (by kernel_rfl) (by kernel_rfl) (fun _ _ _ h => h) (Or.inl ⟨by kernel_rfl, ?_⟩) (by trivial) ?_
                                        rotate_left
                                        · (intro w hSw; go_simp; try (with_reducible rfl))
                                        try simp only [List.getElem_toArray, List.getElem_cons_succ, List.getElem_cons_zero, Act.put, List.setIfInBounds_toArray, List.set_cons_zero, List.set_cons_succ]
                                        refine wpAnyH_ready (rs := [13]) (by kernel_rfl) (by simp) ?_
                                        refine (AllReadyH.cons (o := _) rfl (fun K hK => ?_) AllReadyH.nil)
                                        go_simp
                                        refine hK.out _ _ trivial (fun _ => ?_)
                                        clear hK K
                                        try simp only [List.getElem_toArray, List.getElem_cons_succ, List.getElem_cons_zero, Act.put, List.setIfInBounds_toArray, List.set_cons_zero, List.set_cons_succ]
                                        refine' wpAnyH_take (i := 14) (oi := _) (v := _) rfl (by kernel_rfl) (by kernel_rfl) (by kernel_rfl) (fun _ _ _ h => h) (Or.inl ⟨by kernel_rfl, ?_⟩) (by trivial) ?_
                                        rotate_left
                                        · (intro w hSw; go_simp; try (with_reducible rfl))
                                        try simp only [List.getElem_toArray, List.getElem_cons_succ, List.getElem_cons_zero, Act.put, List.setIfInBounds_toArray, List.set_cons_zero, List.set_cons_succ]
                                        refine wpAnyH_ready (rs := [15]) (by kernel_rfl) (by simp) ?_
                                        refine (AllReadyH.cons (o := _) rfl (fun K hK => ?_) AllReadyH.nil)
                                        go_simp
                                        refine hK.out _ _ trivial (fun _ => ?_)
                                        clear hK K
                                        try simp only [List.getElem_toArray, List.getElem_cons_succ, List.getElem_cons_zero, Act.put, List.setIfInBounds_toArray, List.set_cons_zero, List.set_cons_succ]
                                        refine wpAnyH_done (by kernel_rfl) ?_ _
                                        exact ⟨by kernel_rfl, HSW⟩
                                    · intro t X HS
                                      simp only [puts, List.foldl_cons, List.foldl_nil, Act.put, List.setIfInBounds_toArray, List.set_cons_zero, List.set_cons_succ]
                                      have wi : IntKind.i64.wrap ((i : Int) + 1) = ((i + 1 : Nat) : Int) := by rw [IntKind.wrap_i64]; omega
                                      obtain ⟨q, hq⟩ : ∃ q, j = q + 1 := ⟨j - 1, by omega⟩
                                      have wj : IntKind.i64.wrap ((j : Int) - 1) = (q : Int) := by rw [IntKind.wrap_i64]; omega
                                      rw [show j - 1 = q by omega] at HS
                                      have HQQ := hid hq
                                      clear hq
                                      go_wp2
                                      go_roundw
                                      case rel => exact ⟨i + 1, q, by go_num, by go_num, by omega, by omega, by have := HQQ.out; omega, by have := HQQ.out; omega, HS⟩
                                      case measure => have := HQQ.out; first | (simp [intOf]; done) | (simp [intOf]; omega)
end Go.Proofs.YtjpkodllemoniaaDoor.Sr
namespace Go.Proofs.YtjpkodllemoniaaDoor.Sr
open Go.RowKit Go.Deep
set_option linter.unusedVariables false
set_option linter.unusedSimpArgs false
set_option maxHeartbeats 8000000
set_option maxRecDepth 100000
attribute [local go_sem ↓] Go.wp_at_zero Go.wp_at_succ
theorem peq_ex (g cap n : Nat) (l0 : List Int) (a b p : Nat) (w0 : World) (h : Uz w0 g n l0) (hap : a ≤ p) (hpb : p < b) (hbn : b ≤ n) (hn : n ≤ 1152921504606846976) :
    Calls Tryd.prog 64 #[.slice (some ⟨g, 0, none⟩) n cap, .int .i64 a, .int .i64 b, .int .i64 p] w0 fun e w' => ∃ (m : Nat), e = .returned (.int .i64 m) ∧ m = (Go.Sort.partitionEqual lt l0.toArray a b p).1 ∧ Sp w0 w' g n (fun l => l.toArray = (Go.Sort.partitionEqual lt l0.toArray a b p).2) := by
  obtain ⟨RR, hRR⟩ : ∃ R, Go.Sort.partitionEqual lt l0.toArray a b p = R := ⟨_, rfl⟩
  rw [hRR]
  obtain ⟨i, hi⟩ : ∃ i, i = a + 1 := ⟨_, rfl⟩
  obtain ⟨j, hj⟩ : ∃ j, j + 1 = b := ⟨b - 1, by omega⟩
  have wa : IntKind.i64.wrap ((a : Int) + 1) = (i : Int) := by rw [IntKind.wrap_i64]; omega
  have wb : IntKind.i64.wrap ((b : Int) - 1) = (j : Int) := by rw [IntKind.wrap_i64]; omega
  have hij0 : a < i ∧ i ≤ b ∧ a ≤ j ∧ j < b := by omega
  obtain ⟨i0, i1, j0, j1⟩ := hij0
  have HS := hid (h.sp (F := fun l => Go.Sort.partEqLoop lt a i j (sw l a p).toArray = RR) (by rw [sw_arr, hi, show j = b - 1 by omega]; exact hRR))
  clear h hi hj hRR
  go_enter Tryd.func64, Tryd.ntmps64
  obtain ⟨l, p1, u1, k1⟩ := HS.out
  have P1 := hid (show (fun l => Go.Sort.partEqLoop lt a i j l.toArray = RR) (sw l a p) from p1)
  have U1 := hid u1
  have K1 := hid k1
  have hin : a < n := by omega
  have hjn : p < n := by omega
  have sa0 : (0 : Int) ≤ (a : Int) := by omega
  have sa2 : (a : Int) < (n : Int) := by omega
  have sp0 : (0 : Int) ≤ (p : Int) := by omega
  have sp2 : (p : Int) < (n : Int) := by omega
  clear p1 u1 k1 HS
  go_upto_region 1 with fail
  refine reg_any [11, 12, 13, 14, 15, 16, 17, 18, 19, 20, 21, 22, 23, 24] (fun X => Hid (Sp w0 X g n (fun l => Go.Sort.partEqLoop lt a i j l.toArray = RR))) ?_ ?_
  · have U2 := hid (U1.out.same (w' := w0.drew) rfl)
    have K2 := hid (K1.out.trans (Kp.drew _ w0) (fun _ _ e => e))
    obtain ⟨V, hV⟩ : ∃ U, w0.drew = U := ⟨_, rfl⟩
    rw [hV] at U2 K2
    obtain ⟨xi, hxi⟩ : ∃ x, gd l a = x := ⟨_, rfl⟩
    obtain ⟨xj, hxj⟩ : ∃ x, gd l p = x := ⟨_, rfl⟩
    have ci : V.cell? ⟨g, a, none⟩ = some (.int .u64 xi) := by rw [← hxi]; exact U2.out.cell hin
    have cj : V.cell? ⟨g, p, none⟩ = some (.int .u64 xj) := by rw [← hxj]; exact U2.out.cell hjn
    have fi := U2.out.frz a
    have fj := U2.out.frz p
    have U3 := hid (U2.out.set hin xj)
    have cj3 := U3.out.cell hjn
    have fj3 := U3.out.frz p
    have HSW := hid (Sp.swap (F := fun l => Go.Sort.partEqLoop lt a i j l.toArray = RR) P1.out U2.out K2.out hin hjn)
    rw [hxi, hxj] at HSW
    refine wp_region_held_drew (S := fun _ => True) (by kernel_rfl) trivial (fun _ => ?_)
    rw [hV]
    clear hV hxi hxj
    refine' wpAnyH_take (i := 0) (oi := _) (v := _) rfl (by kernel_rfl) (by kernel_rfl) (by kernel_rfl) (fun _ _ _ h => h) (Or.inl ⟨by kernel_rfl, ?_⟩) (by trivial) ?_
    rotate_left
    · (intro w hSw; go_simp; try (with_reducible rfl))
    try simp only [List.getElem_toArray, List.getElem_cons_succ, List.getElem_cons_zero, Act.put, List.setIfInBounds_toArray, List.set_cons_zero, List.set_cons_succ]
    refine' wpAnyH_take (i := 1) (oi := _) (v := _) rfl (by kernel_rfl) (by kernel_rfl) (by kernel_rfl) (fun _ _ _ h => h) (Or.inl ⟨by kernel_rfl, ?_⟩) (by trivial) ?_
    rotate_left
    · (intro w hSw; go_simp; try (with_reducible rfl))
    try simp only [List.getElem_toArray, List.getElem_cons_succ, List.getElem_cons_zero, Act.put, List.setIfInBounds_toArray, List.set_cons_zero, List.set_cons_succ]
    refine' wpAnyH_take (i := 2) (oi := _) (v := _) rfl (by kernel_rfl) (by kernel_rfl) (by kernel_rfl) (fun _ _ _ h => h) (Or.inl ⟨by kernel_rfl, ?_⟩) (by trivial) ?_
    rotate_left
    · (intro w hSw; go_simp; try (with_reducible rfl))
    try simp only [List.getElem_toArray, List.getElem_cons_succ, List.getElem_cons_zero, Act.put, List.setIfInBounds_toArray, List.set_cons_zero, List.set_cons_succ]
    refine' wpAnyH_take (i := 3) (oi := _) (v := _) rfl (by kernel_rfl) (by kernel_rfl) (by kernel_rfl) (fun _ _ _ h => h) (Or.inl ⟨by kernel_rfl, ?_⟩) (by trivial) ?_
    rotate_left
    · (intro w hSw; go_simp; try (with_reducible rfl))
    try simp only [List.getElem_toArray, List.getElem_cons_succ, List.getElem_cons_zero, Act.put, List.setIfInBounds_toArray, List.set_cons_zero, List.set_cons_succ]
    refine' wpAnyH_take (i := 4) (oi := _) (v := _) rfl (by kernel_rfl) (by kernel_rfl) (by kernel_rfl) (fun _ _ _ h => h) (Or.inl ⟨by kernel_rfl, ?_⟩) (by trivial) ?_
    rotate_left
    · (intro w hSw; go_simp; try (with_reducible rfl))
    try simp only [List.getElem_toArray, List.getElem_cons_succ, List.getElem_cons_zero, Act.put, List.setIfInBounds_toArray, List.set_cons_zero, List.set_cons_succ]
    refine' wpAnyH_take (i := 5) (oi := _) (v := _) rfl (by kernel_rfl) (by kernel_rfl) (by kernel_rfl) (fun _ _ _ h => h) (Or.inl ⟨by kernel_rfl, ?_⟩) (by trivial) ?_
    rotate_left
    · (intro w hSw; go_simp; try (with_reducible rfl))
    try simp only [List.getElem_toArray, List.getElem_cons_succ, List.getElem_cons_zero, Act.put, List.setIfInBounds_toArray, List.set_cons_zero, List.set_cons_succ]
    refine' wpAnyH_take (i := 6) (oi := _) (v := _) rfl (by kernel_rfl) (by kernel_rfl) (by kernel_rfl) (fun _ _ _ h => h) (Or.inl ⟨by kernel_rfl, ?_⟩) (by trivial) ?_
    rotate_left
    · (intro w hSw; go_simp; try (with_reducible rfl))
    try simp only [List.getElem_toArray, List.getElem_cons_succ, List.getElem_cons_zero, Act.put, List.setIfInBounds_toArray, List.set_cons_zero, List.set_cons_succ]
    refine' wpAnyH_take (i := 8) (oi := _) (v := _) rfl (by kernel_rfl) (by kernel_rfl) (by kernel_rfl) (fun _ _ _ h => h) (Or.inl ⟨by kernel_rfl, ?_⟩) (by trivial) ?_
    rotate_left
    · (intro w hSw; go_simp; try (with_reducible rfl))
    try simp only [List.getElem_toArray, List.getElem_cons_succ, List.getElem_cons_zero, Act.put, List.setIfInBounds_toArray, List.set_cons_zero, List.set_cons_succ]
    refine' wpAnyH_take (i := 9) (oi := _) (v := _) rfl (by kernel_rfl) (by kernel_rfl) (by kernel_rfl) (fun _ _ _ h => h) (Or.inl ⟨by kernel_rfl, ?_⟩) (by trivial) ?_
    rotate_left
    · (intro w hSw; go_simp; try (with_reducible rfl))
    try simp only [List.getElem_toArray, List.getElem_cons_succ, List.getElem_cons_zero, Act.put, List.setIfInBounds_toArray, List.set_cons_zero, List.set_cons_succ]
    refine' wpAnyH_take (i := 10) (oi := _) (v := _) rfl (by kernel_rfl) (by kernel_rfl) (by kernel_rfl) (fun _ _ _ h => h) (Or.inl ⟨by kernel_rfl, ?_⟩) (by trivial) ?_
    rotate_left
    · (intro w hSw; go_simp; try (with_reducible rfl))
    try simp only [List.getElem_toArray, List.getElem_cons_succ, List.getElem_cons_zero, Act.put, List.setIfInBounds_toArray, List.set_cons_zero, List.set_cons_succ]
    refine wpAnyH_ready (rs := [7, 11]) (by kernel_rfl) (by simp) ?_
    refine (AllReadyH.cons (o := _) rfl (fun K hK => ?_) (AllReadyH.cons (o := _) rfl (fun K hK => ?_) AllReadyH.nil))
    · go_simp
      refine hK.out _ _ trivial (fun _ => ?_)
      clear hK K
      try simp only [List.getElem_toArray, List.getElem_cons_succ, List.getElem_cons_zero, Act.put, List.setIfInBounds_toArray, List.set_cons_zero, List.set_cons_succ]
      refine wpAnyH_ready (rs := [11]) (by kernel_rfl) (by simp) ?_
      refine (AllReadyH.cons (o := _) rfl (fun K hK => ?_) AllReadyH.nil)
      go_simp
      refine hK.out _ _ trivial (fun _ => ?_)
      clear hK K
      try simp only [List.getElem_toArray, List.getElem_cons_succ, List.getElem_cons_zero, Act.put, List.setIfInBounds_toArray, List.set_cons_zero, List.set_cons_succ]
      refine' wpAnyH_take (i := 12) (oi := _) (v := _) rfl (by kernel_rfl) (by kernel_rfl) (by kernel_rfl) (fun _ _ _ h => h) (Or.inl ⟨by kernel_rfl, ?_⟩) (by trivial) ?_
      rotate_left
      · (intro w hSw; go_simp; try (with_reducible rfl))
      try simp only [List.getElem_toArray, List.getElem_cons_succ, List.getElem_cons_zero, Act.put, List.setIfInBounds_toArray, List.set_cons_zero, List.set_cons_succ]
      refine wpAnyH_ready (rs := [13]) (by kernel_rfl) (by simp) ?_
      refine (AllReadyH.cons (o := _) rfl (fun K hK => ?_) AllReadyH.nil)
      go_simp
      refine hK.out _ _ trivial (fun _ => ?_)
      clear hK K
      try simp only [List.getElem_toArray, List.getElem_cons_succ, List.getElem_cons_zero, Act.put, List.setIfInBounds_toArray, List.set_cons_zero, List.set_cons_succ]
      refine' wpAnyH_take (i := 14) (oi := _) (v := _) rfl (by kernel_rfl) (by kernel_rfl) (by kernel_rfl) (fun _ _ _ h => h) (Or.inl ⟨by kernel_rfl, ?_⟩) (by trivial) ?_
      rotate_left
      · (intro w hSw; go_simp; try (with_reducible rfl))
      try simp only [List.getElem_toArray, List.getElem_cons_succ, List.getElem_cons_zero, Act.put, List.setIfInBounds_toArray, List.set_cons_zero, List.set_cons_succ]
      refine wpAnyH_ready (rs := [15]) (by kernel_rfl) (by simp) ?_
      refine (AllReadyH.cons (o := _) rfl (fun K hK => ?_) AllReadyH.nil)
      go_simp
      refine hK.out _ _ trivial (fun _ => ?_)
      clear hK K
      try simp only [List.getElem_toArray, List.getElem_cons_succ, List.getElem_cons_zero, Act.put, List.setIfInBounds_toArray, List.set_cons_zero, List.set_cons_succ]
      refine wpAnyH_done (by kernel_rfl) ?_ _
      exact ⟨by kernel_rfl, HSW⟩
    · go_simp
      refine hK.out _ _ trivial (fun _ => ?_)
      clear hK K
      try simp only [List.getElem_toArray, List.getElem_cons_succ, List.getElem_cons_zero, Act.put, List.setIfInBounds_toArray, List.set_cons_zero, List.set_cons_succ]
      refine wpAnyH_ready (rs := [7]) (by kernel_rfl) (by simp) ?_
      refine (AllReadyH.cons (o := _) rfl (fun K hK => ?_) AllReadyH.nil)
      go_simp
      refine hK.out _ _ trivial (fun _ => ?_)
      clear hK K
      try simp only [List.getElem_toArray, List.getElem_cons_succ, List.getElem_cons_zero, Act.put, List.setIfInBounds_toArray, List.set_cons_zero, List.set_cons_succ]
      refine' wpAnyH_take (i := 12) (oi := _) (v := _) rfl (by kernel_rfl) (by kernel_rfl) (by kernel_rfl) (fun _ _ _ h => h) (Or.inl ⟨by kernel_rfl, ?_⟩) (by trivial) ?_
      rotate_left
      · (intro w hSw; go_simp; try (with_reducible rfl))
      try simp only [List.getElem_toArray, List.getElem_cons_succ, List.getElem_cons_zero, Act.put, List.setIfInBounds_toArray, List.set_cons_zero, List.set_cons_succ]
      refine wpAnyH_ready (rs := [13]) (by kernel_rfl) (by simp) ?_
      refine (AllReadyH.cons (o := _) rfl (fun K hK => ?_) AllReadyH.nil)
      go_simp
      refine hK.out _ _ trivial (fun _ => ?_)
      clear hK K
      try simp only [List.getElem_toArray, List.getElem_cons_succ, List.getElem_cons_zero, Act.put, List.setIfInBounds_toArray, List.set_cons_zero, List.set_cons_succ]
      refine' wpAnyH_take (i := 14) (oi := _) (v := _) rfl (by kernel_rfl) (by kernel_rfl) (by kernel_rfl) (fun _ _ _ h => h) (Or.inl ⟨by kernel_rfl, ?_⟩) (by trivial) ?_
      rotate_left
      · (intro w hSw; go_simp; try (with_reducible rfl))
      try simp only [List.getElem_toArray, List.getElem_cons_succ, List.getElem_cons_zero, Act.put, List.setIfInBounds_toArray, List.set_cons_zero, List.set_cons_succ]
      refine wpAnyH_ready (rs := [15]) (by kernel_rfl) (by simp) ?_
      refine (AllReadyH.cons (o := _) rfl (fun K hK => ?_) AllReadyH.nil)
      go_simp
      refine hK.out _ _ trivial (fun _ => ?_)
      clear hK K
      try simp only [List.getElem_toArray, List.getElem_cons_succ, List.getElem_cons_zero, Act.put, List.setIfInBounds_toArray, List.set_cons_zero, List.set_cons_succ]
      refine wpAnyH_done (by kernel_rfl) ?_ _
      exact ⟨by kernel_rfl, HSW⟩
  · intro t X HS
    simp only [puts, List.foldl_cons, List.foldl_nil, Act.put, List.setIfInBounds_toArray, List.set_cons_zero, List.set_cons_succ]
    go_upto_region 3 with fail
    go_loopw [9, 10] (fun iv jv wr => ∃ i j : Nat, iv = .int .i64 i ∧ jv = .int .i64 j ∧ a < i ∧ i ≤ b ∧ a ≤ j ∧ j < b ∧ Hid (Sp w0 wr g n (fun l => Go.Sort.partEqLoop lt a i j l.toArray = RR))) (fun _ jv _ => (intOf jv).toNat)
    case atStart => exact ⟨i, j, rfl, rfl, by omega, by omega, by omega, by omega, HS⟩
    case round =>
      clear HS
      obtain ⟨i, j, rfl, rfl, i0, i1, j0, j1, HS⟩ := hrel
      go_upto_region 3 with fail
      go_loopw [9] (fun iv wr => ∃ i' : Nat, iv = .int .i64 i' ∧ i ≤ i' ∧ i' ≤ b ∧ Hid (Sp w0 wr g n (fun l => Go.Sort.partEqLoop lt a i' j l.toArray = RR))) (fun iv _ => b + 1 - (intOf iv).toNat)
      case atStart => exact ⟨i, rfl, by omega, by omega, HS⟩
      case round =>
        clear HS
        obtain ⟨i', rfl, i0, i1, HS⟩ := hrel
        go_upto_region 3 with fail
        refine reg_any3 [29, 30, 31, 32, 33, 34, 35, 36, 37, 38, 39, 40, 41, 42, 43] (fun t X => Hid (∃ β : Bool, t 43 = .bool β ∧ (β = true → (i' ≤ j) ∧ Sp w0 X g n (fun l => Go.Sort.partEqLoop lt a (i' + 1) j l.toArray = RR)) ∧ (β = false → Sp w0 X g n (fun l => pqD a i' j l.toArray = RR)))) ?_ ?_
        · by_cases hle : i' ≤ j
          · have ile : (i' : Int) ≤ (j : Int) := by omega
            obtain ⟨l, p1, u1, k1⟩ := HS.out
            have U1 := hid u1
            have K1 := hid k1
            have HP := hid (show (((!decide (gd l a < gd l i'))) = true → (fun l => Go.Sort.partEqLoop lt a (i' + 1) j l.toArray = RR) l) ∧ (((!decide (gd l a < gd l i'))) = false → (fun l => pqD a i' j l.toArray = RR) l) from pq_u hle p1)
            obtain ⟨y, hy⟩ : ∃ y, gd l a = y := ⟨_, rfl⟩
            have cy : wr.cell? ⟨g, a, none⟩ = some (.int .u64 y) := by rw [← hy]; exact u1.cell (by omega)
            rw [hy] at HP
            clear hy
            obtain ⟨z, hz⟩ : ∃ y, gd l i' = y := ⟨_, rfl⟩
            have cz : wr.cell? ⟨g, i', none⟩ = some (.int .u64 z) := by rw [← hz]; exact u1.cell (by omega)
            rw [hz] at HP
            clear hz
            clear p1 u1 k1
            have a0' : (0 : Int) ≤ (a : Int) := by omega
            have a2 : (a : Int) < (n : Int) := by omega
            have j0' : (0 : Int) ≤ (j : Int) := by omega
            have j2 : (j : Int) < (n : Int) := by omega
            have ii0 : (0 : Int) ≤ (i' : Int) := (by omega)
            have ii2 : (i' : Int) < (n : Int) := (by omega)
            have HLE := hid hle
            clear hle
            go_quiet (first | (go_at_call 63; with_reducible exact Calls.quiet_of_same (less_any _ _ _)))
            exact ⟨by kernel_rfl, hid ⟨_, by rfl, fun hb => ⟨HLE.out, l, HP.out.1 hb, U1.out.same (w' := wr.drewN nq) rfl, K1.out.trans (Kp.drewN _ wr nq) (fun _ _ e => e)⟩, fun hb => ⟨l, HP.out.2 hb, U1.out.same (w' := wr.drewN nq) rfl, K1.out.trans (Kp.drewN _ wr nq) (fun _ _ e => e)⟩⟩⟩
          · have HPN := hid (HS.out.mono (G := fun l => pqD a i' j l.toArray = RR) (fun l _ hl => pq_un hle hl))
            have ilN : decide (i' ≤ j) = false := decide_eq_false hle
            have ile' : ¬ (i' : Int) ≤ (j : Int) := by omega
            have ile : decide ((i' : Int) ≤ (j : Int)) = false := decide_eq_false (by omega)
            go_quiet (first | (go_at_call 63; with_reducible exact Calls.quiet_of_same (less_any _ _ _)))
            exact ⟨by kernel_rfl, hid ⟨false, by rfl, (fun e => by cases e), fun _ => HPN.out.drewN nq⟩⟩
        · rintro t X HB
          obtain ⟨β, eβ, hβ, hγ⟩ := HB.out
          simp only [puts, List.foldl_cons, List.foldl_nil, Act.put, List.setIfInBounds_toArray, List.set_cons_zero, List.set_cons_succ]
          rw [eβ]
          clear eβ HB
          have wi : IntKind.i64.wrap ((i' : Int) + 1) = ((i' + 1 : Nat) : Int) := by rw [IntKind.wrap_i64]; omega
          cases β with
          | true =>
            have HSX := hid (hβ rfl).2
            have hβ' := (hβ rfl).1
            clear hβ hγ HS
            go_wp2
            go_roundw
            case rel => exact ⟨i' + 1, by go_num, by omega, by omega, HSX⟩
            case measure => first | (simp [intOf]; done) | (simp [intOf]; omega)
          | false =>
            have HSX := hid (hγ rfl)
            clear hβ hγ HS wi
            have HS := HSX
            clear HSX
            obtain ⟨i, hi⟩ : ∃ k, i' = k := ⟨_, rfl⟩
            rw [hi] at i0 i1 HS ⊢
            clear hi
            go_upto_region 5 with fail
            go_loopw [10] (fun jv wr => ∃ j' : Nat, jv = .int .i64 j' ∧ a ≤ j' ∧ j' < b ∧ j' ≤ j ∧ Hid (Sp w0 wr g n (fun l => pqD a i j' l.toArray = RR))) (fun jv _ => (intOf jv).toNat)
            case atStart => exact ⟨j, rfl, by omega, by omega, by omega, HS⟩
            case round =>
              clear HS
              obtain ⟨j', rfl, jj0, jj1, jj2, HS⟩ := hrel
              go_upto_region 5 with fail
              refine reg_any3 [46, 47, 48, 49, 50, 51, 52, 53, 54, 55, 56, 57, 58, 59] (fun t X => Hid (∃ β : Bool, t 59 = .bool β ∧ (β = true → (i ≤ j') ∧ Sp w0 X g n (fun l => pqD a i (j' - 1) l.toArray = RR)) ∧ (β = false → Sp w0 X g n (fun l => pqE a i j' l.toArray = RR)))) ?_ ?_
              · by_cases hle : i ≤ j'
                · have ile : (i : Int) ≤ (j' : Int) := by omega
                  obtain ⟨l, p1, u1, k1⟩ := HS.out
                  have U1 := hid u1
                  have K1 := hid k1
                  have HP := hid (show ((decide (gd l a < gd l j')) = true → (fun l => pqD a i (j' - 1) l.toArray = RR) l) ∧ ((decide (gd l a < gd l j')) = false → (fun l => pqE a i j' l.toArray = RR) l) from pq_d hle (by omega) p1)
                  obtain ⟨y, hy⟩ : ∃ y, gd l a = y := ⟨_, rfl⟩
                  have cy : wr.cell? ⟨g, a, none⟩ = some (.int .u64 y) := by rw [← hy]; exact u1.cell (by omega)
                  rw [hy] at HP
                  clear hy
                  obtain ⟨z, hz⟩ : ∃ y, gd l j' = y := ⟨_, rfl⟩
                  have cz : wr.cell? ⟨g, j', none⟩ = some (.int .u64 z) := by rw [← hz]; exact u1.cell (by omega)
                  rw [hz] at HP
                  clear hz
                  clear p1 u1 k1
                  have a0' : (0 : Int) ≤ (a : Int) := by omega
                  have a2 : (a : Int) < (n : Int) := by omega
                  have ii0 : (0 : Int) ≤ (j' : Int) := (by omega)
                  have ii2 : (j' : Int) < (n : Int) := (by omega)
                  have HLE := hid hle
                  clear hle
                  go_quiet (first | (go_at_call 63; with_reducible exact Calls.quiet_of_same (less_any _ _ _)))
                  exact ⟨by kernel_rfl, hid ⟨_, by rfl, fun hb => ⟨HLE.out, l, HP.out.1 hb, U1.out.same (w' := wr.drewN nq) rfl, K1.out.trans (Kp.drewN _ wr nq) (fun _ _ e => e)⟩, fun hb => ⟨l, HP.out.2 hb, U1.out.same (w' := wr.drewN nq) rfl, K1.out.trans (Kp.drewN _ wr nq) (fun _ _ e => e)⟩⟩⟩
                · have HPN := hid (HS.out.mono (G := fun l => pqE a i j' l.toArray = RR) (fun l _ hl => pq_dn hle hl))
                  have ilN : decide (i ≤ j') = false := decide_eq_false hle
                  have ile' : ¬ (i : Int) ≤ (j' : Int) := by omega
                  have ile : decide ((i : Int) ≤ (j' : Int)) = false := decide_eq_false (by omega)
                  go_quiet (first | (go_at_call 63; with_reducible exact Calls.quiet_of_same (less_any _ _ _)))
                  exact ⟨by kernel_rfl, hid ⟨false, by rfl, (fun e => by cases e), fun _ => HPN.out.drewN nq⟩⟩
              · rintro t X HB
                obtain ⟨β, eβ, hβ, hγ⟩ := HB.out
                simp only [puts, List.foldl_cons, List.foldl_nil, Act.put, List.setIfInBounds_toArray, List.set_cons_zero, List.set_cons_succ]
                rw [eβ]
                clear eβ HB
                cases β with
                | true =>
                  have HSX := hid (hβ rfl).2
                  have hβ' := (hβ rfl).1
                  clear hβ hγ HS
                  obtain ⟨q, hq⟩ : ∃ q, j' = q + 1 := ⟨j' - 1, by omega⟩
                  have wj : IntKind.i64.wrap ((j' : Int) - 1) = (q : Int) := by rw [IntKind.wrap_i64]; omega
                  rw [show j' - 1 = q by omega] at HSX
                  have HQQ := hid hq
                  clear hq
                  go_wp2
                  go_roundw
                  case rel => exact ⟨q, by go_num, by have := HQQ.out; omega, by have := HQQ.out; omega, by have := HQQ.out; omega, HSX⟩
                  case measure => have := HQQ.out; first | (simp [intOf]; done) | (simp [intOf]; omega)
                | false =>
                  have HSX := hid (hγ rfl)
                  clear hβ hγ HS
                  have HS := HSX
                  clear HSX
                  obtain ⟨j, hj⟩ : ∃ k, j' = k := ⟨_, rfl⟩
                  rw [hj] at jj0 jj1 jj2 HS ⊢
                  clear hj
                  by_cases hij : j < i
                  · have iij : (j : Int) < (i : Int) := by omega
                    obtain ⟨l, p1, u1, k1⟩ := HS.out
                    have HE := hid (show i = RR.1 ∧ Sp w0 X g n (fun l => l.toArray = RR.2) from ⟨by rw [← pq_f hij p1], l, by rw [← pq_f hij p1], u1, k1⟩)
                    clear p1 u1 k1 HS
                    go_wp2
                    go_ret
                    exact ⟨i, rfl, HE.out⟩
                  · have iij : decide ((j : Int) < (i : Int)) = false := decide_eq_false (by omega)
                    obtain ⟨l, p1, u1, k1⟩ := HS.out
                    have P1 := hid (show (fun l => Go.Sort.partEqLoop lt a (i + 1) (j - 1) l.toArray = RR) (sw l i j) from pq_e hij p1)
                    have U1 := hid u1
                    have K1 := hid k1
                    have hin : i < n := by omega
                    have hjn : j < n := by omega
                    have si0 : (0 : Int) ≤ (i : Int) := by omega
                    have si2 : (i : Int) < (n : Int) := by omega
                    have sj0 : (0 : Int) ≤ (j : Int) := by omega
                    have sj2 : (j : Int) < (n : Int) := by omega
                    clear p1 u1 k1 HS
                    go_upto_region 8 with fail
                    refine reg_any [65, 66, 67, 68, 69, 70, 71, 72, 73, 74, 75, 76, 77, 78] (fun X => Hid (Sp w0 X g n (fun l => Go.Sort.partEqLoop lt a (i + 1) (j - 1) l.toArray = RR))) ?_ ?_
                    · have U2 := hid (U1.out.same (w' := X.drew) rfl)
                      have K2 := hid (K1.out.trans (Kp.drew _ X) (fun _ _ e => e))
                      obtain ⟨V, hV⟩ : ∃ U, X.drew = U := ⟨_, rfl⟩
                      rw [hV] at U2 K2
                      obtain ⟨xi, hxi⟩ : ∃ x, gd l i = x := ⟨_, rfl⟩
                      obtain ⟨xj, hxj⟩ : ∃ x, gd l j = x := ⟨_, rfl⟩
                      have ci : V.cell? ⟨g, i, none⟩ = some (.int .u64 xi) := by rw [← hxi]; exact U2.out.cell hin
                      have cj : V.cell? ⟨g, j, none⟩ = some (.int .u64 xj) := by rw [← hxj]; exact U2.out.cell hjn
                      have fi := U2.out.frz i
                      have fj := U2.out.frz j
                      have U3 := hid (U2.out.set hin xj)
                      have cj3 := U3.out.cell hjn
                      have fj3 := U3.out.frz j
                      have HSW := hid (Sp.swap (F := fun l => Go.Sort.partEqLoop lt a (i + 1) (j - 1) l.toArray = RR) P1.out U2.out K2.out hin hjn)
                      rw [hxi, hxj] at HSW
                      refine wp_region_held_drew (S := fun _ => True) (by kernel_rfl) trivial (fun _ => ?_)
                      rw [hV]
                      clear hV hxi hxj
                      refine' wpAnyH_take (i := 0) (oi := _) (v := _) rfl (by kernel_rfl) (by kernel_rfl) (by kernel_rfl) (fun _ _ _ h => h) (Or.inl ⟨by kernel_rfl, ?_⟩) (by trivial) ?_
                      rotate_left
                      · (intro w hSw; go_simp; try (with_reducible rfl))
                      try simp only [List.getElem_toArray, List.getElem_cons_succ, List.getElem_cons_zero, Act.put, List.setIfInBounds_toArray, List.set_cons_zero, List.set_cons_succ]
                      refine' wpAnyH_take (i := 1) (oi := _) (v := _) rfl (by kernel_rfl) (by kernel_rfl) (by kernel_rfl) (fun _ _ _ h => h) (Or.inl ⟨by kernel_rfl, ?_⟩) (by trivial) ?_
                      rotate_left
                      · (intro w hSw; go_simp; try (with_reducible rfl))
                      try simp only [List.getElem_toArray, List.getElem_cons_succ, List.getElem_cons_zero, Act.put, List.setIfInBounds_toArray, List.set_cons_zero, List.set_cons_succ]
                      refine' wpAnyH_take (i := 2) (oi := _) (v := _) rfl (by kernel_rfl) (by kernel_rfl) (by kernel_rfl) (fun _ _ _ h => h) (Or.inl ⟨by kernel_rfl, ?_⟩) (by trivial) ?_
                      rotate_left
                      · (intro w hSw; go_simp; try (with_reducible rfl))
                      try simp only [List.getElem_toArray, List.getElem_cons_succ, List.getElem_cons_zero, Act.put, List.setIfInBounds_toArray, List.set_cons_zero, List.set_cons_succ]
                      refine' wpAnyH_take (i := 3) (oi := _) (v := _) rfl (by kernel_rfl) (by kernel_rfl) (by kernel_rfl) (fun _ _ _ h => h) (Or.inl ⟨by kernel_rfl, ?_⟩) (by trivial) ?_
                      rotate_left
                      · (intro w hSw; go_simp; try (with_reducible rfl))
                      try simp only [List.getElem_toArray, List.getElem_cons_succ, List.getElem_cons_zero, Act.put, List.setIfInBounds_toArray, List.set_cons_zero, List.set_cons_succ]
                      refine' wpAnyH_take (i := 4) (oi := _) (v := _) rfl (by kernel_rfl) (by kernel_rfl) (by kernel_rfl) (fun _ _ _ h => h) (Or.inl ⟨by kernel_rfl, ?_⟩) (by trivial) ?_
                      rotate_left
                      · (intro w hSw; go_simp; try (with_reducible rfl))
                      try simp only [List.getElem_toArray, List.getElem_cons_succ, List.getElem_cons_zero, Act.put, List.setIfInBounds_toArray, List.set_cons_zero, List.set_cons_succ]
                      refine' wpAnyH_take (i := 5) (oi := _) (v := _) rfl (by kernel_rfl) (by kernel_rfl) (by kernel_rfl) (fun _ _ _ h => h) (Or.inl ⟨by kernel_rfl, ?_⟩) (by trivial) ?_
                      rotate_left
                      · (intro w hSw; go_simp; try (with_reducible rfl))
                      try simp only [List.getElem_toArray, List.getElem_cons_succ, List.getElem_cons_zero, Act.put, List.setIfInBounds_toArray, List.set_cons_zero, List.set_cons_succ]
                      refine' wpAnyH_take (i := 6) (oi := _) (v := _) rfl (by kernel_rfl) (by kernel_rfl) (by kernel_rfl) (fun _ _ _ h => h) (Or.inl ⟨by kernel_rfl, ?_⟩) (by trivial) ?_
                      rotate_left
                      · (intro w hSw; go_simp; try (with_reducible rfl))
                      try simp only [List.getElem_toArray, List.getElem_cons_succ, List.getElem_cons_zero, Act.put, List.setIfInBounds_toArray, List.set_cons_zero, List.set_cons_succ]
                      refine' wpAnyH_take (i := 8) (oi := _) (v := _) rfl (by kernel_rfl) (by kernel_rfl) (by kernel_rfl) (fun _ _ _ h => h) (Or.inl ⟨by kernel_rfl, ?_⟩) (by trivial) ?_
                      rotate_left
                      · (intro w hSw; go_simp; try (with_reducible rfl))
                      try simp only [List.getElem_toArray, List.getElem_cons_succ, List.getElem_cons_zero, Act.put, List.setIfInBounds_toArray, List.set_cons_zero, List.set_cons_succ]
                      refine' wpAnyH_take (i := 9) (oi := _) (v := _) rfl (by kernel_rfl) (by kernel_rfl) (by kernel_rfl) (fun _ _ _ h => h) (Or.inl ⟨by kernel_rfl, ?_⟩) (by trivial) ?_
                      rotate_left
                      · (intro w hSw; go_simp; try (with_reducible rfl))
                      try simp only [List.getElem_toArray, List.getElem_cons_succ, List.getElem_cons_zero, Act.put, List.setIfInBounds_toArray, List.set_cons_zero, List.set_cons_succ]
                      refine' wpAnyH_take (i := 10) (oi := _) (v := _) rfl (by kernel_rfl) (by kernel_rfl) (by kernel_rfl) (fun _ _ _ h => h) (Or.inl ⟨by kernel_rfl, ?_⟩) (by trivial) ?_
                      rotate_left
                      · (intro w hSw; go_simp; try (with_reducible rfl))
                      try simp only [List.getElem_toArray, List.getElem_cons_succ, List.getElem_cons_zero, Act.put, List.setIfInBounds_toArray, List.set_cons_zero, List.set_cons_succ]
                      refine wpAnyH_ready (rs := [7, 11]) (by kernel_rfl) (by simp) ?_
                      refine (AllReadyH.cons (o := _) rfl (fun K hK => ?_) (AllReadyH.cons (o := _) rfl (fun K hK => ?_) AllReadyH.nil))
                      · go_simp
                        refine hK.out _ _ trivial (fun _ => ?_)
                        clear hK K
                        try simp only [List.getElem_toArray, List.getElem_cons_succ, List.getElem_cons_zero, Act.put, List.setIfInBounds_toArray, List.set_cons_zero, List.set_cons_succ]
                        refine wpAnyH_ready (rs := [11]) (by kernel_rfl) (by simp) ?_
                        refine (AllReadyH.cons (o := _) rfl (fun K hK => ?_) AllReadyH.nil)
                        go_simp
                        refine hK.out _ _ trivial (fun _ => ?_)
                        clear hK K
                        try simp only [List.getElem_toArray, List.getElem_cons_succ, List.getElem_cons_zero, Act.put, List.setIfInBounds_toArray, List.set_cons_zero, List.set_cons_succ]
                        refine' wpAnyH_take (i := 12) (oi := _) (v := _) rfl (by kernel_rfl) (by kernel_rfl) (by kernel_rfl) (fun _ _ _ h => h) (Or.inl ⟨by kernel_rfl, ?_⟩) (by trivial) ?_
                        rotate_left
                        · (intro w hSw; go_simp; try (with_reducible rfl))
                        try simp only [List.getElem_toArray, List.getElem_cons_succ, List.getElem_cons_zero, Act.put, List.setIfInBounds_toArray, List.set_cons_zero, List.set_cons_succ]
                        refine wpAnyH_ready (rs := [13]) (by kernel_rfl) (by simp) ?_
                        refine (AllReadyH.cons (o := _) rfl (fun K hK => ?_) AllReadyH.nil)
                        go_simp
                        refine hK.out _ _ trivial (fun _ => ?_)
                        clear hK K
                        try simp only [List.getElem_toArray, List.getElem_cons_succ, List.getElem_cons_zero, Act.put, List.setIfInBounds_toArray, List.set_cons_zero, List.set_cons_succ]
                        refine' wpAnyH_take (i := 14) (oi := _) (v := _) rfl (by kernel_rfl) (by kernel_rfl) (by kernel_rfl) (fun _ _ _ h => h) (Or.inl ⟨by kernel_rfl, ?_⟩) (by trivial) ?_
                        rotate_left
                        · (intro w hSw; go_simp; try (with_reducible rfl))
                        try simp only [List.getElem_toArray, List.getElem_cons_succ, List.getElem_cons_zero, Act.put, List.setIfInBounds_toArray, List.set_cons_zero, List.set_cons_succ]
                        refine wpAnyH_ready (rs := [15]) (by kernel_rfl) (by simp) ?_
                        refine (AllReadyH.cons (o := _) rfl (fun K hK => ?_) AllReadyH.nil)
                        go_simp
                        refine hK.out _ _ trivial (fun _ => ?_)
                        clear hK K
                        try simp only [List.getElem_toArray, List.getElem_cons_succ, List.getElem_cons_zero, Act.put, List.setIfInBounds_toArray, List.set_cons_zero, List.set_cons_succ]
                        refine wpAnyH_done (by kernel_rfl) ?_ _
                        exact ⟨by kernel_rfl, HSW⟩
                      · go_simp
                        refine hK.out _ _ trivial (fun _ => ?_)
                        clear hK K
                        try simp only [List.getElem_toArray, List.getElem_cons_succ, List.getElem_cons_zero, Act.put, List.setIfInBounds_toArray, List.set_cons_zero, List.set_cons_succ]
                        refine wpAnyH_ready (rs := [7]) (by kernel_rfl) (by simp) ?_
                        refine (AllReadyH.cons (o := _) rfl (fun K hK => ?_) AllReadyH.nil)
                        go_simp
                        refine hK.out _ _ trivial (fun _ => ?_)
                        clear hK K
                        try simp only [List.getElem_toArray, List.getElem_cons_succ, List.getElem_cons_zero, Act.put, List.setIfInBounds_toArray, List.set_cons_zero, List.set_cons_succ]
                        refine' wpAnyH_take (i := 12) (oi := _) (v := _) rfl (by kernel_rfl) (by kernel_rfl) (by kernel_rfl) (fun _ _ _ h => h) (Or.inl ⟨by kernel_rfl, ?_⟩) (by trivial) ?_
                        rotate_left
                        · (intro w hSw; go_simp; try (with_reducible rfl))
                        try simp only [List.getElem_toArray, List.getElem_cons_succ, List.getElem_cons_zero, Act.put, List.setIfInBounds_toArray, List.set_cons_zero, List.set_cons_succ]
                        refine wpAnyH_ready (rs := [13]) (by kernel_rfl) (by simp) ?_
                        refine (AllReadyH.cons (o := _) rfl (fun K hK => ?_) AllReadyH.nil)
                        go_simp
                        refine hK.out _ _ trivial (fun _ => ?_)
                        clear hK K
                        try simp only [List.getElem_toArray, List.getElem_cons_succ, List.getElem_cons_zero, Act.put, List.setIfInBounds_toArray, List.set_cons_zero, List.set_cons_succ]
                        refine' wpAnyH_take (i := 14) (oi := _) (v := _) rfl (by kernel_rfl) (by kernel_rfl) (by kernel_rfl) (fun _ _ _ h => h) (Or.inl ⟨by kernel_rfl, ?_⟩) (by trivial) ?_
                        rotate_left
                        · (intro w hSw; go_simp; try (with_reducible rfl))
                        try simp only [List.getElem_toArray, List.getElem_cons_succ, List.getElem_cons_zero, Act.put, List.setIfInBounds_toArray, List.set_cons_zero, List.set_cons_succ]
                        refine wpAnyH_ready (rs := [15]) (by kernel_rfl) (by simp) ?_
                        refine (AllReadyH.cons (o := _) rfl (fun K hK => ?_) AllReadyH.nil)
                        go_simp
                        refine hK.out _ _ trivial (fun _ => ?_)
                        clear hK K
                        try simp only [List.getElem_toArray, List.getElem_cons_succ, List.getElem_cons_zero, Act.put, List.setIfInBounds_toArray, List.set_cons_zero, List.set_cons_succ]
                        refine wpAnyH_done (by kernel_rfl) ?_ _
                        exact ⟨by kernel_rfl, HSW⟩
                    · intro t X HS
                      simp only [puts, List.foldl_cons, List.foldl_nil, Act.put, List.setIfInBounds_toArray, List.set_cons_zero, List.set_cons_succ]
                      have wi : IntKind.i64.wrap ((i : Int) + 1) = ((i + 1 : Nat) : Int) := by rw [IntKind.wrap_i64]; omega
                      obtain ⟨q, hq⟩ : ∃ q, j = q + 1 := ⟨j - 1, by omega⟩
                      have wj : IntKind.i64.wrap ((j : Int) - 1) = (q : Int) := by rw [IntKind.wrap_i64]; omega
                      rw [show j - 1 = q by omega] at HS
                      have HQQ := hid hq
                      clear hq
                      go_wp2
                      go_roundw
                      case rel => exact ⟨i + 1, q, by go_num, by go_num, by omega, by omega, by have := HQQ.out; omega, by have := HQQ.out; omega, HS⟩
                      case measure => have := HQQ.out; first | (simp [intOf]; done) | (simp [intOf]; omega)
end Go.Proofs.YtjpkodllemoniaaDoor.Sr
