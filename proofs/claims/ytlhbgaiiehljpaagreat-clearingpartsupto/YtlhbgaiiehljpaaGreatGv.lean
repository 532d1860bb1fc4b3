/-
  StB
-/
import Derived.Test.YtlhbgaiiehljpaaGreatGu
namespace Go.Proofs.YtlhbgaiiehljpaaGreat.Ss
open Go.RowKit Go.Deep
set_option linter.unusedVariables false
set_option linter.unusedSimpArgs false
set_option maxHeartbeats 8000000
set_option maxRecDepth 100000
attribute [local go_sem ↓] Go.wp_at_zero Go.wp_at_succ
def cm (x y : Int) : Int := if x < y then -1 else if y < x then 1 else 0
theorem cm_neg (x y : Int) : decide (cm x y < 0) = decide (x < y) := by
  unfold cm
  split
  · rename_i h
    simp [h]
  · rename_i h
    rw [decide_eq_false h]
    split <;> rfl
theorem nan_any (x : Int) (w : World) : Calls Tryz.prog 123 #[.int .u64 x] w fun e w' => e = .returned (.bool false) ∧ w' = w := by
  go_enter Tryz.func123, Tryz.ntmps123
  go_wp2
  go_ret
  simp
theorem compare_any (x y : Int) (w : World) : Calls Tryz.prog 111 #[.int .u64 x, .int .u64 y] w fun e w' => e = .returned (.int .i64 (cm x y)) ∧ w' = w := by
  have CN := hid nan_any
  unfold cm
  by_cases h : x < y
  · rw [if_pos h]
    have e1 : decide (x < y) = true := decide_eq_true h
    go_enter Tryz.func111, Tryz.ntmps111
    go_wp2_with (go_at_call 123; with_reducible refine (CN.out _ _).mono ?_; rintro e w1 ⟨rfl, h1⟩; subst h1)
    go_ret
    exact ⟨rfl, rfl⟩
  · rw [if_neg h]
    have e1 : decide (x < y) = false := decide_eq_false h
    by_cases h2 : y < x
    · rw [if_pos h2]
      have e2 : decide (y < x) = true := decide_eq_true h2
      go_enter Tryz.func111, Tryz.ntmps111
      go_wp2_with (go_at_call 123; with_reducible refine (CN.out _ _).mono ?_; rintro e w1 ⟨rfl, h1⟩; subst h1)
      go_ret
      exact ⟨rfl, rfl⟩
    · rw [if_neg h2]
      have e2 : decide (y < x) = false := decide_eq_false h2
      go_enter Tryz.func111, Tryz.ntmps111
      go_wp2_with (go_at_call 123; with_reducible refine (CN.out _ _).mono ?_; rintro e w1 ⟨rfl, h1⟩; subst h1)
      go_ret
      exact ⟨rfl, rfl⟩
/-- the closure's variable, and the rests. -/
structure Cb (w : World) (B gr N c : Nat) (rs : List Int) : Prop where
  box : w.cell? ⟨B, 0, none⟩ = some (.slice (some ⟨gr, 0, none⟩) N c)
  cel : ∀ i, i < N → w.cell? ⟨gr, i, none⟩ = some (.int .u64 (gd rs i))
  ltB : B < w.heap.size
  ltG : gr < w.heap.size
theorem Cb.kept {w w' : World} {B gr N c : Nat} {rs : List Int} {g : Nat} (h : Cb w B gr N c rs) (hk : Kp (fun b => b = g) w w') (hB : B ≠ g) (hg : gr ≠ g) : Cb w' B gr N c rs := by
  have eB := hk.obj B h.ltB hB
  have eG := hk.obj gr h.ltG hg
  refine ⟨?_, fun i hi => ?_, Nat.lt_of_lt_of_le h.ltB hk.size, Nat.lt_of_lt_of_le h.ltG hk.size⟩
  · have := h.box
    unfold World.cell? at this ⊢
    rw [eB]
    exact this
  · have := h.cel i hi
    unfold World.cell? at this ⊢
    rw [eG]
    exact this
theorem closure_any {w : World} {B gr N c : Nat} {rs : List Int} (h : Cb w B gr N c rs) (i j : Nat) (hi : i < N) (hj : j < N) :
    Calls Tryz.prog 110 #[.int .i64 i, .int .i64 j, .pointer (some ⟨B, 0, none⟩)] w fun e w' => e = .returned (.int .i64 (cm (gd rs j) (gd rs i))) ∧ ∃ m, w' = w.drewN m := by
  have hb := h.box
  have h1 := h.cel i hi
  have h2 := h.cel j hj
  have i0 : (0 : Int) ≤ (i : Int) := by omega
  have i1 : (i : Int) < (N : Int) := by omega
  have j0 : (0 : Int) ≤ (j : Int) := by omega
  have j1 : (j : Int) < (N : Int) := by omega
  obtain ⟨x, hx⟩ : ∃ x, gd rs i = x := ⟨_, rfl⟩
  obtain ⟨y, hy⟩ : ∃ x, gd rs j = x := ⟨_, rfl⟩
  rw [hx] at h1 ⊢
  rw [hy] at h2 ⊢
  clear h hi hj hx hy
  go_enter Tryz.func110, Tryz.ntmps110
  go_upto_region 1 with fail
  go_quiet (first | (go_at_call 111; with_reducible exact Calls.quiet_of_same (compare_any _ _ _)))
  go_wp2
  go_ret
  exact ⟨rfl, nq, rfl⟩
/-- what the sort may ask of it, as long as only block g changes. -/
def Cq (w0 : World) (g B N : Nat) (r : Int → Int) : Prop := ∀ U, Kp (fun b => b = g) w0 U → ∀ x y : Int, 0 ≤ x → x < N → 0 ≤ y → y < N → ∀ k, Calls Tryz.prog 110 #[.int .i64 x, .int .i64 y, .pointer (some ⟨B, 0, none⟩)] (U.drewN k) fun e w' => e = .returned (.int .i64 (cm (r y) (r x))) ∧ ∃ m, w' = (U.drewN k).drewN m
theorem Cq.on {w0 w1 : World} {g B N : Nat} {r : Int → Int} (h : Cq w0 g B N r) (hk : Kp (fun b => b = g) w0 w1) : Cq w1 g B N r := fun U hU => h U (hk.trans hU (fun _ _ e => e))
theorem cq_of {w : World} {g B gr N c : Nat} {rs : List Int} (h : Cb w B gr N c rs) (hB : B ≠ g) (hg : gr ≠ g) : Cq w g B N (fun x => gd rs x.toNat) := fun U hU x y x0 x1 y0 y1 k => by
  obtain ⟨i, rfl⟩ := Int.eq_ofNat_of_zero_le x0
  obtain ⟨j, rfl⟩ := Int.eq_ofNat_of_zero_le y0
  exact closure_any ((h.kept hU hB hg).kept (g := g) (Kp.drewN _ _ k) hB hg) i j (by omega) (by omega)
end Go.Proofs.YtlhbgaiiehljpaaGreat.Ss
namespace Go.Proofs.YtlhbgaiiehljpaaGreat.Ss
open Go.RowKit Go.Deep
set_option linter.unusedVariables false
set_option linter.unusedSimpArgs false
set_option maxHeartbeats 8000000
set_option maxRecDepth 100000
attribute [local go_sem ↓] Go.wp_at_zero Go.wp_at_succ
theorem gd_mem {l : List Int} {i : Nat} (h : i < l.length) : gd l i ∈ l := by
  unfold gd
  rw [List.getD_eq_getElem?_getD, List.getElem?_eq_getElem h]
  exact List.getElem_mem h
theorem gd_bd {l l0 : List Int} {N i : Nat} (hp : l.Perm l0) (hb : ∀ x ∈ l0, 0 ≤ x ∧ x < (N : Int)) (h : i < l.length) : 0 ≤ gd l i ∧ gd l i < (N : Int) := hb _ (hp.mem_iff.1 (gd_mem h))
theorem ins_st (g cap n N B : Nat) (r : Int → Int) (l0 : List Int) (a b : Nat) (w0 : World) (h : Uz w0 g n l0) (hab : a ≤ b) (hbn : b ≤ n) (hn : n ≤ 1152921504606846976) (hbd : ∀ x ∈ l0, 0 ≤ x ∧ x < (N : Int)) (hst : ∀ x y, a ≤ x → x < y → y < b → r (gd l0 x) = r (gd l0 y) → gd l0 x < gd l0 y) (hcq : Cq w0 g B N r) :
    Calls Tryz.prog 126 #[.slice (some ⟨g, 0, none⟩) n cap, .int .i64 a, .int .i64 b, .func (.func 110) #[] #[.pointer (some ⟨B, 0, none⟩)]] w0 fun e w' => e = .returned (.tuple #[]) ∧ Sp w0 w' g n (fun l => l.Perm l0 ∧ Seg (gd l0) (gd l) a b ∧ Srt r (gd l) a b) := by
  have HS0 := hid (h.sp (F := fun l => l.Perm l0 ∧ Seg (gd l0) (gd l) a (min (a + 1) b) ∧ Srt r (gd l) a (min (a + 1) b)) ⟨List.Perm.refl _, Seg.refl _ _ _, fun x y h1 h2 h3 => by omega⟩)
  have wa : IntKind.i64.wrap ((a : Int) + 1) = ((a + 1 : Nat) : Int) := by rw [IntKind.wrap_i64]; omega
  have HBD := hid hbd
  have HST := hid hst
  have CQ := hid hcq
  have HLN := hid h.len
  clear h hbd hst hcq
  go_enter Tryz.func126, Tryz.ntmps126
  go_upto_region 1 with fail
  go_loopw [8] (fun iv wr => ∃ i : Nat, iv = .int .i64 i ∧ a < i ∧ i ≤ b + 1 ∧ Hid (Sp w0 wr g n (fun l => l.Perm l0 ∧ Seg (gd l0) (gd l) a (min i b) ∧ Srt r (gd l) a (min i b)))) (fun iv _ => b + 1 - (intOf iv).toNat)
  case atStart => exact ⟨a + 1, rfl, by omega, by omega, HS0⟩
  case round =>
    obtain ⟨i, rfl, i0, i1, HS⟩ := hrel
    clear HS0
    by_cases hlt : i < b
    · have il : (i : Int) < (b : Int) := by omega
      have wi : IntKind.i64.wrap ((i : Int) + 1) = ((i + 1 : Nat) : Int) := by rw [IntKind.wrap_i64]; omega
      have HSi := hid (HS.out.mono (G := fun l => l.Perm l0 ∧ Ins r (gd l0) (gd l) a i i) (fun l _ hl => by rw [Nat.min_eq_left (by omega)] at hl; exact ⟨hl.1, Ins.start hl.2.1 hl.2.2⟩))
      clear HS
      go_upto_region 4 with fail
      go_loopw [9] (fun jv wr => ∃ j : Nat, jv = .int .i64 j ∧ a ≤ j ∧ j ≤ i ∧ Hid (Sp w0 wr g n (fun l => l.Perm l0 ∧ Ins r (gd l0) (gd l) a i j))) (fun jv _ => (intOf jv).toNat)
      case atStart => exact ⟨i, rfl, by omega, by omega, HSi⟩
      case round =>
        clear HSi
        obtain ⟨j, rfl, j0, j1, HS2⟩ := hrel
        by_cases hj : a < j
        · obtain ⟨k, hk⟩ : ∃ k, j = k + 1 := ⟨j - 1, by omega⟩
          obtain ⟨l, p1, u1, k1⟩ := HS2.out
          have U1 := hid u1
          have K1 := hid k1
          have hlen := u1.len
          have HP := hid (show (r (gd l k) < r (gd l j) → (fun l => l.Perm l0 ∧ Ins r (gd l0) (gd l) a i k) (sw l j k)) ∧ (¬ r (gd l k) < r (gd l j) → (fun l => l.Perm l0 ∧ Seg (gd l0) (gd l) a (min (i + 1) b) ∧ Srt r (gd l) a (min (i + 1) b)) l) from by
            subst hk
            refine ⟨fun e => ⟨(sw_perm (by omega) (by omega)).trans p1.1, p1.2.step hj j1 (by omega) e⟩, fun e => ?_⟩
            obtain ⟨s1, s2⟩ := p1.2.stop j0 j1 (fun x y h1 h2 h3 => HST.out x y h1 h2 (by omega)) (.inr ⟨k, rfl, e⟩)
            rw [show min (i + 1) b = i + 1 by omega]
            exact ⟨p1.1, s1, s2⟩)
          obtain ⟨y0, y1⟩ := gd_bd p1.1 HBD.out (show j < l.length by omega)
          obtain ⟨z0, z1⟩ := gd_bd p1.1 HBD.out (show k < l.length by omega)
          have C1 := hid (CQ.out wr k1 _ _ y0 y1 z0 z1)
          obtain ⟨y, hy⟩ : ∃ y, gd l j = y := ⟨_, rfl⟩
          have cy : wr.cell? ⟨g, j, none⟩ = some (.int .i64 y) := by rw [← hy]; exact u1.cell (by omega)
          obtain ⟨z, hz⟩ : ∃ y, gd l k = y := ⟨_, rfl⟩
          have cz : wr.cell? ⟨g, k, none⟩ = some (.int .i64 z) := by rw [← hz]; exact u1.cell (by omega)
          rw [hy, hz] at HP C1
          clear p1 u1 k1 hy hz y0 y1 z0 z1 hlen
          have hin : j < n := by omega
          have hjn : k < n := by omega
          have aj : (a : Int) < (j : Int) := by omega
          have j0' : (0 : Int) ≤ (j : Int) := by omega
          have j2 : (j : Int) < (n : Int) := by omega
          have k0' : (0 : Int) ≤ (k : Int) := by omega
          have k2 : (k : Int) < (n : Int) := by omega
          have wj : IntKind.i64.wrap ((j : Int) - 1) = (k : Int) := by rw [IntKind.wrap_i64]; omega
          have HKJ := hid hk
          clear hk
          go_upto_region 4 with fail
          go_quiet (first | (go_at_call 110; with_reducible exact Calls.quiet_of (C1.out _)))
          rw [cm_neg]
          have U1 := hid (U1.out.same (w' := wr.drewN nq) rfl)
          have K1 := hid (K1.out.trans (Kp.drewN _ wr nq) (fun _ _ e => e))
          obtain ⟨V, hV⟩ : ∃ U, wr.drewN nq = U := ⟨_, rfl⟩
          rw [hV] at U1 K1 ⊢
          clear hV
          cases hb : decide (r z < r y) with
          | true =>
            have P1 := hid (HP.out.1 (of_decide_eq_true hb))
            clear hb cy cz HP C1
            go_upto_region 6 with fail
            refine reg_any [37, 38, 39, 40, 41, 42, 43, 44, 45, 46, 47, 48, 49, 50, 51, 52] (fun X => Hid (Sp w0 X g n (fun l => l.Perm l0 ∧ Ins r (gd l0) (gd l) a i k))) ?_ ?_
            · have U2 := hid (U1.out.same (w' := V.drew) rfl)
              have K2 := hid (K1.out.trans (Kp.drew _ V) (fun _ _ e => e))
              obtain ⟨V, hV⟩ : ∃ U, V.drew = U := ⟨_, rfl⟩
              rw [hV] at U2 K2
              obtain ⟨xi, hxi⟩ : ∃ x, gd l j = x := ⟨_, rfl⟩
              obtain ⟨xj, hxj⟩ : ∃ x, gd l k = x := ⟨_, rfl⟩
              have ci : V.cell? ⟨g, j, none⟩ = some (.int .i64 xi) := by rw [← hxi]; exact U2.out.cell hin
              have cj : V.cell? ⟨g, k, none⟩ = some (.int .i64 xj) := by rw [← hxj]; exact U2.out.cell hjn
              have fi := U2.out.frz j
              have fj := U2.out.frz k
              have U3 := hid (U2.out.set hin xj)
              have cj3 := U3.out.cell hjn
              have fj3 := U3.out.frz k
              have HSW := hid (Sp.swap (F := fun l => l.Perm l0 ∧ Ins r (gd l0) (gd l) a i k) P1.out U2.out K2.out hin hjn)
              rw [hxi, hxj] at HSW
              refine wp_region_held_drew (S := fun _ => True) (by kernel_rfl) trivial (fun _ => ?_)
              rw [hV]
              clear hV hxi hxj
              refine' wpAnyH_take (i := 0) (oi := _) (v := _) rfl (by kernel_rfl) (by kernel_rfl) (by kernel_rfl) (fun _ _ _ h => h) (Or.inl ⟨by kernel_rfl, ?_⟩) (by trivial) ?_
              rotate_left
              · (intro w hSw; go_simp; try (with_reducible rfl))
              try simp only [List.getElem_toArray, List.getElem_cons_succ, List.getElem_cons_zero, Act.put, List.setIfInBounds_toArray, List.set_cons_zero, List.set_cons_succ]
              refine' wpAnyH_take (i := 1) (oi := _) (v := _) rfl (by kernel_rfl) (by kernel_rfl) (by kernel_rfl) (fun _ _ _ h => h) (Or.inl ⟨by kernel_rfl, ?_⟩) (by trivial) ?_
              rotate_left
              · (intro w hSw; go_simp; try (with_reducible rfl))
              try simp only [List.getElem_toArray, List.getElem_cons_succ, List.getElem_cons_zero, Act.put, List.setIfInBounds_toArray, List.set_cons_zero, List.set_cons_succ]
              refine' wpAnyH_take (i := 2) (oi := _) (v := _) rfl (by kernel_rfl) (by kernel_rfl) (by kernel_rfl) (fun _ _ _ h => h) (Or.inl ⟨by kernel_rfl, ?_⟩) (by trivial) ?_
              rotate_left
              · (intro w hSw; go_simp; try (with_reducible rfl))
              try simp only [List.getElem_toArray, List.getElem_cons_succ, List.getElem_cons_zero, Act.put, List.setIfInBounds_toArray, List.set_cons_zero, List.set_cons_succ]
              refine' wpAnyH_take (i := 3) (oi := _) (v := _) rfl (by kernel_rfl) (by kernel_rfl) (by kernel_rfl) (fun _ _ _ h => h) (Or.inl ⟨by kernel_rfl, ?_⟩) (by trivial) ?_
              rotate_left
              · (intro w hSw; go_simp; try (with_reducible rfl))
              try simp only [List.getElem_toArray, List.getElem_cons_succ, List.getElem_cons_zero, Act.put, List.setIfInBounds_toArray, List.set_cons_zero, List.set_cons_succ]
              refine' wpAnyH_take (i := 4) (oi := _) (v := _) rfl (by kernel_rfl) (by kernel_rfl) (by kernel_rfl) (fun _ _ _ h => h) (Or.inl ⟨by kernel_rfl, ?_⟩) (by trivial) ?_
              rotate_left
              · (intro w hSw; go_simp; try (with_reducible rfl))
              try simp only [List.getElem_toArray, List.getElem_cons_succ, List.getElem_cons_zero, Act.put, List.setIfInBounds_toArray, List.set_cons_zero, List.set_cons_succ]
              refine' wpAnyH_take (i := 5) (oi := _) (v := _) rfl (by kernel_rfl) (by kernel_rfl) (by kernel_rfl) (fun _ _ _ h => h) (Or.inl ⟨by kernel_rfl, ?_⟩) (by trivial) ?_
              rotate_left
              · (intro w hSw; go_simp; try (with_reducible rfl))
              try simp only [List.getElem_toArray, List.getElem_cons_succ, List.getElem_cons_zero, Act.put, List.setIfInBounds_toArray, List.set_cons_zero, List.set_cons_succ]
              refine' wpAnyH_take (i := 6) (oi := _) (v := _) rfl (by kernel_rfl) (by kernel_rfl) (by kernel_rfl) (fun _ _ _ h => h) (Or.inl ⟨by kernel_rfl, ?_⟩) (by trivial) ?_
              rotate_left
              · (intro w hSw; go_simp; try (with_reducible rfl))
              try simp only [List.getElem_toArray, List.getElem_cons_succ, List.getElem_cons_zero, Act.put, List.setIfInBounds_toArray, List.set_cons_zero, List.set_cons_succ]
              refine' wpAnyH_take (i := 7) (oi := _) (v := _) rfl (by kernel_rfl) (by kernel_rfl) (by kernel_rfl) (fun _ _ _ h => h) (Or.inl ⟨by kernel_rfl, ?_⟩) (by trivial) ?_
              rotate_left
              · (intro w hSw; go_simp; try (with_reducible rfl))
              try simp only [List.getElem_toArray, List.getElem_cons_succ, List.getElem_cons_zero, Act.put, List.setIfInBounds_toArray, List.set_cons_zero, List.set_cons_succ]
              refine' wpAnyH_take (i := 8) (oi := _) (v := _) rfl (by kernel_rfl) (by kernel_rfl) (by kernel_rfl) (fun _ _ _ h => h) (Or.inl ⟨by kernel_rfl, ?_⟩) (by trivial) ?_
              rotate_left
              · (intro w hSw; go_simp; try (with_reducible rfl))
              try simp only [List.getElem_toArray, List.getElem_cons_succ, List.getElem_cons_zero, Act.put, List.setIfInBounds_toArray, List.set_cons_zero, List.set_cons_succ]
              refine' wpAnyH_take (i := 10) (oi := _) (v := _) rfl (by kernel_rfl) (by kernel_rfl) (by kernel_rfl) (fun _ _ _ h => h) (Or.inl ⟨by kernel_rfl, ?_⟩) (by trivial) ?_
              rotate_left
              · (intro w hSw; go_simp; try (with_reducible rfl))
              try simp only [List.getElem_toArray, List.getElem_cons_succ, List.getElem_cons_zero, Act.put, List.setIfInBounds_toArray, List.set_cons_zero, List.set_cons_succ]
              refine' wpAnyH_take (i := 11) (oi := _) (v := _) rfl (by kernel_rfl) (by kernel_rfl) (by kernel_rfl) (fun _ _ _ h => h) (Or.inl ⟨by kernel_rfl, ?_⟩) (by trivial) ?_
              rotate_left
              · (intro w hSw; go_simp; try (with_reducible rfl))
              try simp only [List.getElem_toArray, List.getElem_cons_succ, List.getElem_cons_zero, Act.put, List.setIfInBounds_toArray, List.set_cons_zero, List.set_cons_succ]
              refine' wpAnyH_take (i := 12) (oi := _) (v := _) rfl (by kernel_rfl) (by kernel_rfl) (by kernel_rfl) (fun _ _ _ h => h) (Or.inl ⟨by kernel_rfl, ?_⟩) (by trivial) ?_
              rotate_left
              · (intro w hSw; go_simp; try (with_reducible rfl))
              try simp only [List.getElem_toArray, List.getElem_cons_succ, List.getElem_cons_zero, Act.put, List.setIfInBounds_toArray, List.set_cons_zero, List.set_cons_succ]
              refine wpAnyH_ready (rs := [9, 13]) (by kernel_rfl) (by simp) ?_
              refine (AllReadyH.cons (o := _) rfl (fun K hK => ?_) (AllReadyH.cons (o := _) rfl (fun K hK => ?_) AllReadyH.nil))
              · go_simp
                refine hK.out _ _ trivial (fun _ => ?_)
                clear hK K
                try simp only [List.getElem_toArray, List.getElem_cons_succ, List.getElem_cons_zero, Act.put, List.setIfInBounds_toArray, List.set_cons_zero, List.set_cons_succ]
                refine wpAnyH_ready (rs := [13]) (by kernel_rfl) (by simp) ?_
                refine (AllReadyH.cons (o := _) rfl (fun K hK => ?_) AllReadyH.nil)
                go_simp
                refine hK.out _ _ trivial (fun _ => ?_)
                clear hK K
                try simp only [List.getElem_toArray, List.getElem_cons_succ, List.getElem_cons_zero, Act.put, List.setIfInBounds_toArray, List.set_cons_zero, List.set_cons_succ]
                refine' wpAnyH_take (i := 14) (oi := _) (v := _) rfl (by kernel_rfl) (by kernel_rfl) (by kernel_rfl) (fun _ _ _ h => h) (Or.inl ⟨by kernel_rfl, ?_⟩) (by trivial) ?_
                rotate_left
                · (intro w hSw; go_simp; try (with_reducible rfl))
                try simp only [List.getElem_toArray, List.getElem_cons_succ, List.getElem_cons_zero, Act.put, List.setIfInBounds_toArray, List.set_cons_zero, List.set_cons_succ]
                refine wpAnyH_ready (rs := [15]) (by kernel_rfl) (by simp) ?_
                refine (AllReadyH.cons (o := _) rfl (fun K hK => ?_) AllReadyH.nil)
                go_simp
                refine hK.out _ _ trivial (fun _ => ?_)
                clear hK K
                try simp only [List.getElem_toArray, List.getElem_cons_succ, List.getElem_cons_zero, Act.put, List.setIfInBounds_toArray, List.set_cons_zero, List.set_cons_succ]
                refine' wpAnyH_take (i := 16) (oi := _) (v := _) rfl (by kernel_rfl) (by kernel_rfl) (by kernel_rfl) (fun _ _ _ h => h) (Or.inl ⟨by kernel_rfl, ?_⟩) (by trivial) ?_
                rotate_left
                · (intro w hSw; go_simp; try (with_reducible rfl))
                try simp only [List.getElem_toArray, List.getElem_cons_succ, List.getElem_cons_zero, Act.put, List.setIfInBounds_toArray, List.set_cons_zero, List.set_cons_succ]
                refine wpAnyH_ready (rs := [17]) (by kernel_rfl) (by simp) ?_
                refine (AllReadyH.cons (o := _) rfl (fun K hK => ?_) AllReadyH.nil)
                go_simp
                refine hK.out _ _ trivial (fun _ => ?_)
                clear hK K
                try simp only [List.getElem_toArray, List.getElem_cons_succ, List.getElem_cons_zero, Act.put, List.setIfInBounds_toArray, List.set_cons_zero, List.set_cons_succ]
                refine wpAnyH_done (by kernel_rfl) ?_ _
                exact ⟨by kernel_rfl, HSW⟩
              · go_simp
                refine hK.out _ _ trivial (fun _ => ?_)
                clear hK K
                try simp only [List.getElem_toArray, List.getElem_cons_succ, List.getElem_cons_zero, Act.put, List.setIfInBounds_toArray, List.set_cons_zero, List.set_cons_succ]
                refine wpAnyH_ready (rs := [9]) (by kernel_rfl) (by simp) ?_
                refine (AllReadyH.cons (o := _) rfl (fun K hK => ?_) AllReadyH.nil)
                go_simp
                refine hK.out _ _ trivial (fun _ => ?_)
                clear hK K
                try simp only [List.getElem_toArray, List.getElem_cons_succ, List.getElem_cons_zero, Act.put, List.setIfInBounds_toArray, List.set_cons_zero, List.set_cons_succ]
                refine' wpAnyH_take (i := 14) (oi := _) (v := _) rfl (by kernel_rfl) (by kernel_rfl) (by kernel_rfl) (fun _ _ _ h => h) (Or.inl ⟨by kernel_rfl, ?_⟩) (by trivial) ?_
                rotate_left
                · (intro w hSw; go_simp; try (with_reducible rfl))
                try simp only [List.getElem_toArray, List.getElem_cons_succ, List.getElem_cons_zero, Act.put, List.setIfInBounds_toArray, List.set_cons_zero, List.set_cons_succ]
                refine wpAnyH_ready (rs := [15]) (by kernel_rfl) (by simp) ?_
                refine (AllReadyH.cons (o := _) rfl (fun K hK => ?_) AllReadyH.nil)
                go_simp
                refine hK.out _ _ trivial (fun _ => ?_)
                clear hK K
                try simp only [List.getElem_toArray, List.getElem_cons_succ, List.getElem_cons_zero, Act.put, List.setIfInBounds_toArray, List.set_cons_zero, List.set_cons_succ]
                refine' wpAnyH_take (i := 16) (oi := _) (v := _) rfl (by kernel_rfl) (by kernel_rfl) (by kernel_rfl) (fun _ _ _ h => h) (Or.inl ⟨by kernel_rfl, ?_⟩) (by trivial) ?_
                rotate_left
                · (intro w hSw; go_simp; try (with_reducible rfl))
                try simp only [List.getElem_toArray, List.getElem_cons_succ, List.getElem_cons_zero, Act.put, List.setIfInBounds_toArray, List.set_cons_zero, List.set_cons_succ]
                refine wpAnyH_ready (rs := [17]) (by kernel_rfl) (by simp) ?_
                refine (AllReadyH.cons (o := _) rfl (fun K hK => ?_) AllReadyH.nil)
                go_simp
                refine hK.out _ _ trivial (fun _ => ?_)
                clear hK K
                try simp only [List.getElem_toArray, List.getElem_cons_succ, List.getElem_cons_zero, Act.put, List.setIfInBounds_toArray, List.set_cons_zero, List.set_cons_succ]
                refine wpAnyH_done (by kernel_rfl) ?_ _
                exact ⟨by kernel_rfl, HSW⟩
            · intro t X HS
              simp only [puts, List.foldl_cons, List.foldl_nil, Act.put, List.setIfInBounds_toArray, List.set_cons_zero, List.set_cons_succ]
              go_wp2
              go_roundw
              case rel => exact ⟨k, by go_num, by have := HKJ.out; omega, by have := HKJ.out; omega, HS⟩
              case measure => have := HKJ.out; simp [intOf]; omega
          | false =>
            have HQ := hid (show Sp w0 V g n (fun l => l.Perm l0 ∧ Seg (gd l0) (gd l) a (min (i + 1) b) ∧ Srt r (gd l) a (min (i + 1) b)) from ⟨l, HP.out.2 (of_decide_eq_false hb), U1.out, K1.out⟩)
            clear hb cy cz HP C1
            go_wp2
            go_roundw
            case rel => exact ⟨i + 1, by go_num, by omega, by omega, HQ⟩
            case measure => simp [intOf]; omega
        · have aj : ¬ (a : Int) < (j : Int) := by omega
          have dj : decide ((a : Int) < (j : Int)) = false := decide_eq_false aj
          go_upto_region 4 with fail
          go_quiet (fail)
          have HQ := hid ((HS2.out.drewN nq).mono (G := fun l => l.Perm l0 ∧ Seg (gd l0) (gd l) a (min (i + 1) b) ∧ Srt r (gd l) a (min (i + 1) b)) (fun l _ hl => by
            obtain ⟨s1, s2⟩ := hl.2.stop j0 j1 (fun x y h1 h2 h3 => HST.out x y h1 h2 (by omega)) (.inl (by omega))
            rw [show min (i + 1) b = i + 1 by omega]
            exact ⟨hl.1, s1, s2⟩))
          obtain ⟨V, hV⟩ : ∃ U, wr.drewN nq = U := ⟨_, rfl⟩
          rw [hV] at HQ ⊢
          clear hV
          go_wp2
          go_roundw
          case rel => exact ⟨i + 1, by go_num, by omega, by omega, HQ⟩
          case measure => simp [intOf]; omega
    · have HE := hid (HS.out.mono (G := fun l => l.Perm l0 ∧ Seg (gd l0) (gd l) a b ∧ Srt r (gd l) a b) (fun l _ hl => by rw [Nat.min_eq_right (by omega)] at hl; exact hl))
      go_wp2
      go_end0
      exact ⟨rfl, HE.out⟩
end Go.Proofs.YtlhbgaiiehljpaaGreat.Ss
