/-
  reverseRange, insertionSort.
-/
import Derived.Test.YtphhllppgelceaaSrA
namespace Go.Proofs.Ytphhllppgelceaa.Sr
open List renaming getElem_toArray → lgA, getElem_cons_succ → lgB, getElem_cons_zero → lgC, setIfInBounds_toArray → lsA, set_cons_zero → lsB, set_cons_succ → lsC
open Go.RowKit Go.Deep
set_option linter.unusedVariables false
set_option linter.unusedSimpArgs false
set_option maxHeartbeats 8000000
set_option maxRecDepth 100000
attribute [local go_sem ↓] Go.wp_at_zero Go.wp_at_succ
theorem rev_any (g cap n : Nat) (l0 : List Int) (a b : Nat) (w0 : World) (h : Uz w0 g n l0) (hab : a ≤ b) (hbn : b ≤ n) (hn : n ≤ 4611686018427387904) :
    Calls Try.prog 54 #[.slice (some ⟨g, 0, none⟩) n cap, .int .i64 a, .int .i64 b] w0 fun e w' => e = .returned (.tuple #[]) ∧ Sz w0 w' g n l0 := by
  have HS0 := hid h.sz
  have wb : IntKind.i64.wrap ((b : Int) - 1) = (b : Int) - 1 := by rw [IntKind.wrap_i64]; omega
  clear h
  go_enter Try.func54, Try.ntmps54
  go_upto_region 2 with fail
  go_loopw [6, 7] (fun iv jv wr => ∃ (i : Nat) (j : Int), iv = .int .i64 i ∧ jv = .int .i64 j ∧ j < n ∧ -1 ≤ j ∧ i ≤ n ∧ Hid (Sz w0 wr g n l0)) (fun iv jv _ => (intOf jv - intOf iv).toNat)
  case atStart => exact ⟨a, (b : Int) - 1, rfl, rfl, by omega, by omega, by omega, HS0⟩
  case round =>
    obtain ⟨i, j, rfl, rfl, j1, j0, i1, HS⟩ := hrel
    by_cases hlt : (i : Int) < j
    · obtain ⟨k, rfl⟩ : ∃ k : Nat, j = k := ⟨j.toNat, by omega⟩
      obtain ⟨l, p1, u1, k1⟩ := HS.out
      have P1 := hid p1
      have U1 := hid u1
      have K1 := hid k1
      have hin : i < n := by omega
      have hjn : k < n := by omega
      have i0' : (0 : Int) ≤ (i : Int) := by omega
      have i2 : (i : Int) < (n : Int) := by omega
      have k0' : (0 : Int) ≤ (k : Int) := by omega
      have k2 : (k : Int) < (n : Int) := by omega
      have w1 : IntKind.i64.wrap ((i : Int) + 1) = (i : Int) + 1 := by rw [IntKind.wrap_i64]; omega
      have w2 : IntKind.i64.wrap ((k : Int) - 1) = (k : Int) - 1 := by rw [IntKind.wrap_i64]; omega
      clear p1 u1 k1
      go_upto_region 3 with fail
      refine reg_any [14, 15, 16, 17, 18, 19, 20, 21, 22, 23, 24, 25, 26, 27] (fun X => Hid (Sz w0 X g n l0)) ?_ ?_
      · have U2 := hid (U1.out.same (w' := wr.drew) rfl)
        have K2 := hid (K1.out.trans (Kp.drew _ wr) (fun _ _ e => e))
        obtain ⟨V, hV⟩ : ∃ U, wr.drew = U := ⟨_, rfl⟩
        rw [hV] at U2 K2
        obtain ⟨xi, hxi⟩ : ∃ x, gd l i = x := ⟨_, rfl⟩
        obtain ⟨xj, hxj⟩ : ∃ x, gd l k = x := ⟨_, rfl⟩
        have ci : V.cell? ⟨g, i, none⟩ = some (.int .u32 xi) := by rw [← hxi]; exact U2.out.cell hin
        have cj : V.cell? ⟨g, k, none⟩ = some (.int .u32 xj) := by rw [← hxj]; exact U2.out.cell hjn
        have fi := U2.out.frz i
        have fj := U2.out.frz k
        have U3 := hid (U2.out.set hin xj)
        have cj3 := U3.out.cell hjn
        have fj3 := U3.out.frz k
        have HSW := hid (Sz.swap P1.out U2.out K2.out hin hjn)
        rw [hxi, hxj] at HSW
        refine wp_region_held_drew (S := fun _ => True) (by kernel_rfl) trivial (fun _ => ?_)
        rw [hV]
        clear hV hxi hxj
        refine' wpAnyH_take (i := 0) rfl (by kernel_rfl) (by kernel_rfl) (by kernel_rfl) (fun _ _ _ h => h) (Or.inl ⟨by kernel_rfl, ?_⟩) (by trivial) ?_
        rotate_left
        · (intro w hSw; go_simp; try (with_reducible rfl))
        try simp only [lgA, lgB, lgC, Act.put, lsA, lsB, lsC]
        refine' wpAnyH_take (i := 1) rfl (by kernel_rfl) (by kernel_rfl) (by kernel_rfl) (fun _ _ _ h => h) (Or.inl ⟨by kernel_rfl, ?_⟩) (by trivial) ?_
        rotate_left
        · (intro w hSw; go_simp; try (with_reducible rfl))
        try simp only [lgA, lgB, lgC, Act.put, lsA, lsB, lsC]
        refine' wpAnyH_take (i := 2) rfl (by kernel_rfl) (by kernel_rfl) (by kernel_rfl) (fun _ _ _ h => h) (Or.inl ⟨by kernel_rfl, ?_⟩) (by trivial) ?_
        rotate_left
        · (intro w hSw; go_simp; try (with_reducible rfl))
        try simp only [lgA, lgB, lgC, Act.put, lsA, lsB, lsC]
        refine' wpAnyH_take (i := 3) rfl (by kernel_rfl) (by kernel_rfl) (by kernel_rfl) (fun _ _ _ h => h) (Or.inl ⟨by kernel_rfl, ?_⟩) (by trivial) ?_
        rotate_left
        · (intro w hSw; go_simp; try (with_reducible rfl))
        try simp only [lgA, lgB, lgC, Act.put, lsA, lsB, lsC]
        refine' wpAnyH_take (i := 4) rfl (by kernel_rfl) (by kernel_rfl) (by kernel_rfl) (fun _ _ _ h => h) (Or.inl ⟨by kernel_rfl, ?_⟩) (by trivial) ?_
        rotate_left
        · (intro w hSw; go_simp; try (with_reducible rfl))
        try simp only [lgA, lgB, lgC, Act.put, lsA, lsB, lsC]
        refine' wpAnyH_take (i := 5) rfl (by kernel_rfl) (by kernel_rfl) (by kernel_rfl) (fun _ _ _ h => h) (Or.inl ⟨by kernel_rfl, ?_⟩) (by trivial) ?_
        rotate_left
        · (intro w hSw; go_simp; try (with_reducible rfl))
        try simp only [lgA, lgB, lgC, Act.put, lsA, lsB, lsC]
        refine' wpAnyH_take (i := 6) rfl (by kernel_rfl) (by kernel_rfl) (by kernel_rfl) (fun _ _ _ h => h) (Or.inl ⟨by kernel_rfl, ?_⟩) (by trivial) ?_
        rotate_left
        · (intro w hSw; go_simp; try (with_reducible rfl))
        try simp only [lgA, lgB, lgC, Act.put, lsA, lsB, lsC]
        refine' wpAnyH_take (i := 8) rfl (by kernel_rfl) (by kernel_rfl) (by kernel_rfl) (fun _ _ _ h => h) (Or.inl ⟨by kernel_rfl, ?_⟩) (by trivial) ?_
        rotate_left
        · (intro w hSw; go_simp; try (with_reducible rfl))
        try simp only [lgA, lgB, lgC, Act.put, lsA, lsB, lsC]
        refine' wpAnyH_take (i := 9) rfl (by kernel_rfl) (by kernel_rfl) (by kernel_rfl) (fun _ _ _ h => h) (Or.inl ⟨by kernel_rfl, ?_⟩) (by trivial) ?_
        rotate_left
        · (intro w hSw; go_simp; try (with_reducible rfl))
        try simp only [lgA, lgB, lgC, Act.put, lsA, lsB, lsC]
        refine' wpAnyH_take (i := 10) rfl (by kernel_rfl) (by kernel_rfl) (by kernel_rfl) (fun _ _ _ h => h) (Or.inl ⟨by kernel_rfl, ?_⟩) (by trivial) ?_
        rotate_left
        · (intro w hSw; go_simp; try (with_reducible rfl))
        try simp only [lgA, lgB, lgC, Act.put, lsA, lsB, lsC]
        refine wpAnyH_ready (rs := [7, 11]) (by kernel_rfl) (by simp) ?_
        refine (AllReadyH.cons rfl (fun K hK => ?_) (AllReadyH.cons rfl (fun K hK => ?_) AllReadyH.nil))
        · go_simp
          refine hK.out _ _ trivial (fun _ => ?_)
          clear hK K
          try simp only [lgA, lgB, lgC, Act.put, lsA, lsB, lsC]
          refine wpAnyH_ready (rs := [11]) (by kernel_rfl) (by simp) ?_
          refine (AllReadyH.cons rfl (fun K hK => ?_) AllReadyH.nil)
          go_simp
          refine hK.out _ _ trivial (fun _ => ?_)
          clear hK K
          try simp only [lgA, lgB, lgC, Act.put, lsA, lsB, lsC]
          refine' wpAnyH_take (i := 12) rfl (by kernel_rfl) (by kernel_rfl) (by kernel_rfl) (fun _ _ _ h => h) (Or.inl ⟨by kernel_rfl, ?_⟩) (by trivial) ?_
          rotate_left
          · (intro w hSw; go_simp; try (with_reducible rfl))
          try simp only [lgA, lgB, lgC, Act.put, lsA, lsB, lsC]
          refine wpAnyH_ready (rs := [13]) (by kernel_rfl) (by simp) ?_
          refine (AllReadyH.cons rfl (fun K hK => ?_) AllReadyH.nil)
          go_simp
          refine hK.out _ _ trivial (fun _ => ?_)
          clear hK K
          try simp only [lgA, lgB, lgC, Act.put, lsA, lsB, lsC]
          refine' wpAnyH_take (i := 14) rfl (by kernel_rfl) (by kernel_rfl) (by kernel_rfl) (fun _ _ _ h => h) (Or.inl ⟨by kernel_rfl, ?_⟩) (by trivial) ?_
          rotate_left
          · (intro w hSw; go_simp; try (with_reducible rfl))
          try simp only [lgA, lgB, lgC, Act.put, lsA, lsB, lsC]
          refine wpAnyH_ready (rs := [15]) (by kernel_rfl) (by simp) ?_
          refine (AllReadyH.cons rfl (fun K hK => ?_) AllReadyH.nil)
          go_simp
          refine hK.out _ _ trivial (fun _ => ?_)
          clear hK K
          try simp only [lgA, lgB, lgC, Act.put, lsA, lsB, lsC]
          refine wpAnyH_done (by kernel_rfl) ?_ _
          exact ⟨by kernel_rfl, HSW⟩
        · go_simp
          refine hK.out _ _ trivial (fun _ => ?_)
          clear hK K
          try simp only [lgA, lgB, lgC, Act.put, lsA, lsB, lsC]
          refine wpAnyH_ready (rs := [7]) (by kernel_rfl) (by simp) ?_
          refine (AllReadyH.cons rfl (fun K hK => ?_) AllReadyH.nil)
          go_simp
          refine hK.out _ _ trivial (fun _ => ?_)
          clear hK K
          try simp only [lgA, lgB, lgC, Act.put, lsA, lsB, lsC]
          refine' wpAnyH_take (i := 12) rfl (by kernel_rfl) (by kernel_rfl) (by kernel_rfl) (fun _ _ _ h => h) (Or.inl ⟨by kernel_rfl, ?_⟩) (by trivial) ?_
          rotate_left
          · (intro w hSw; go_simp; try (with_reducible rfl))
          try simp only [lgA, lgB, lgC, Act.put, lsA, lsB, lsC]
          refine wpAnyH_ready (rs := [13]) (by kernel_rfl) (by simp) ?_
          refine (AllReadyH.cons rfl (fun K hK => ?_) AllReadyH.nil)
          go_simp
          refine hK.out _ _ trivial (fun _ => ?_)
          clear hK K
          try simp only [lgA, lgB, lgC, Act.put, lsA, lsB, lsC]
          refine' wpAnyH_take (i := 14) rfl (by kernel_rfl) (by kernel_rfl) (by kernel_rfl) (fun _ _ _ h => h) (Or.inl ⟨by kernel_rfl, ?_⟩) (by trivial) ?_
          rotate_left
          · (intro w hSw; go_simp; try (with_reducible rfl))
          try simp only [lgA, lgB, lgC, Act.put, lsA, lsB, lsC]
          refine wpAnyH_ready (rs := [15]) (by kernel_rfl) (by simp) ?_
          refine (AllReadyH.cons rfl (fun K hK => ?_) AllReadyH.nil)
          go_simp
          refine hK.out _ _ trivial (fun _ => ?_)
          clear hK K
          try simp only [lgA, lgB, lgC, Act.put, lsA, lsB, lsC]
          refine wpAnyH_done (by kernel_rfl) ?_ _
          exact ⟨by kernel_rfl, HSW⟩
      · intro t X HS
        simp only [puts, List.foldl_cons, List.foldl_nil, Act.put, List.setIfInBounds_toArray, List.set_cons_zero, List.set_cons_succ]
        go_wp2
        go_roundw
        case rel => exact ⟨i + 1, (k : Int) - 1, by go_num, by go_num, by omega, by omega, by omega, HS⟩
        case measure => simp [intOf]; omega
    · go_wp2
      go_end0
      exact ⟨rfl, HS.out⟩
theorem ins_any (g cap n : Nat) (l0 : List Int) (a b : Nat) (w0 : World) (h : Uz w0 g n l0) (hab : a ≤ b) (hbn : b ≤ n) (hn : n ≤ 4611686018427387904) :
    Calls Try.prog 50 #[.slice (some ⟨g, 0, none⟩) n cap, .int .i64 a, .int .i64 b] w0 fun e w' => e = .returned (.tuple #[]) ∧ Sz w0 w' g n l0 := by
  have HS0 := hid h.sz
  have wa : IntKind.i64.wrap ((a : Int) + 1) = ((a + 1 : Nat) : Int) := by rw [IntKind.wrap_i64]; omega
  clear h
  go_enter Try.func50, Try.ntmps50
  go_upto_region 1 with fail
  go_loopw [6] (fun iv wr => ∃ i : Nat, iv = .int .i64 i ∧ a < i ∧ i ≤ b + 1 ∧ Hid (Sz w0 wr g n l0)) (fun iv _ => b + 1 - (intOf iv).toNat)
  case atStart => exact ⟨a + 1, rfl, by omega, by omega, HS0⟩
  case round =>
    obtain ⟨i, rfl, i0, i1, HS⟩ := hrel
    by_cases hlt : i < b
    · have il : (i : Int) < (b : Int) := by omega
      have wi : IntKind.i64.wrap ((i : Int) + 1) = ((i + 1 : Nat) : Int) := by rw [IntKind.wrap_i64]; omega
      go_upto_region 4 with fail
      go_loopw [7] (fun jv wr => ∃ j : Nat, jv = .int .i64 j ∧ a ≤ j ∧ j ≤ i ∧ Hid (Sz w0 wr g n l0)) (fun jv _ => (intOf jv).toNat)
      case atStart => exact ⟨i, rfl, by omega, by omega, HS⟩
      case round =>
        obtain ⟨j, rfl, j0, j1, HS2⟩ := hrel
        by_cases hj : a < j
        · obtain ⟨k, hk⟩ : ∃ k, j = k + 1 := ⟨j - 1, by omega⟩
          obtain ⟨l, p1, u1, k1⟩ := HS2.out
          have P1 := hid p1
          have U1 := hid u1
          have K1 := hid k1
          obtain ⟨y, hy⟩ : ∃ y, gd l j = y := ⟨_, rfl⟩
          have cy : wr.cell? ⟨g, j, none⟩ = some (.int .u32 y) := by rw [← hy]; exact u1.cell (by omega)
          clear hy
          obtain ⟨z, hz⟩ : ∃ y, gd l k = y := ⟨_, rfl⟩
          have cz : wr.cell? ⟨g, k, none⟩ = some (.int .u32 z) := by rw [← hz]; exact u1.cell (by omega)
          clear hz
          clear p1 u1 k1
          have hin : j < n := by omega
          have hjn : k < n := by omega
          have aj : (a : Int) < (j : Int) := by omega
          have j0' : (0 : Int) ≤ (j : Int) := by omega
          have j2 : (j : Int) < (n : Int) := by omega
          have k0' : (0 : Int) ≤ (k : Int) := by omega
          have k2 : (k : Int) < (n : Int) := by omega
          have wj : IntKind.i64.wrap ((j : Int) - 1) = (k : Int) := by rw [IntKind.wrap_i64]; omega
          have HKJ := hid hk
          clear hk
          go_upto_region 4 with fail
          go_quiet (first | (go_at_call 56; with_reducible exact Calls.quiet_of_same (less_any _ _ _)))
          have U1 := hid (U1.out.same (w' := wr.drewN nq) rfl)
          have K1 := hid (K1.out.trans (Kp.drewN _ wr nq) (fun _ _ e => e))
          have HQ := hid (HS2.out.drewN nq)
          obtain ⟨V, hV⟩ : ∃ U, wr.drewN nq = U := ⟨_, rfl⟩
          rw [hV] at U1 K1 HQ ⊢
          clear hV
          cases hb : decide (y < z) with
          | true =>
            clear hb cy cz
            go_upto_region 6 with fail
            refine reg_any [33, 34, 35, 36, 37, 38, 39, 40, 41, 42, 43, 44, 45, 46, 47, 48] (fun X => Hid (Sz w0 X g n l0)) ?_ ?_
            · have U2 := hid (U1.out.same (w' := V.drew) rfl)
              have K2 := hid (K1.out.trans (Kp.drew _ V) (fun _ _ e => e))
              obtain ⟨V, hV⟩ : ∃ U, V.drew = U := ⟨_, rfl⟩
              rw [hV] at U2 K2
              obtain ⟨xi, hxi⟩ : ∃ x, gd l j = x := ⟨_, rfl⟩
              obtain ⟨xj, hxj⟩ : ∃ x, gd l k = x := ⟨_, rfl⟩
              have ci : V.cell? ⟨g, j, none⟩ = some (.int .u32 xi) := by rw [← hxi]; exact U2.out.cell hin
              have cj : V.cell? ⟨g, k, none⟩ = some (.int .u32 xj) := by rw [← hxj]; exact U2.out.cell hjn
              have fi := U2.out.frz j
              have fj := U2.out.frz k
              have U3 := hid (U2.out.set hin xj)
              have cj3 := U3.out.cell hjn
              have fj3 := U3.out.frz k
              have HSW := hid (Sz.swap P1.out U2.out K2.out hin hjn)
              rw [hxi, hxj] at HSW
              refine wp_region_held_drew (S := fun _ => True) (by kernel_rfl) trivial (fun _ => ?_)
              rw [hV]
              clear hV hxi hxj
              refine' wpAnyH_take (i := 0) rfl (by kernel_rfl) (by kernel_rfl) (by kernel_rfl) (fun _ _ _ h => h) (Or.inl ⟨by kernel_rfl, ?_⟩) (by trivial) ?_
              rotate_left
              · (intro w hSw; go_simp; try (with_reducible rfl))
              try simp only [lgA, lgB, lgC, Act.put, lsA, lsB, lsC]
              refine' wpAnyH_take (i := 1) rfl (by kernel_rfl) (by kernel_rfl) (by kernel_rfl) (fun _ _ _ h => h) (Or.inl ⟨by kernel_rfl, ?_⟩) (by trivial) ?_
              rotate_left
              · (intro w hSw; go_simp; try (with_reducible rfl))
              try simp only [lgA, lgB, lgC, Act.put, lsA, lsB, lsC]
              refine' wpAnyH_take (i := 2) rfl (by kernel_rfl) (by kernel_rfl) (by kernel_rfl) (fun _ _ _ h => h) (Or.inl ⟨by kernel_rfl, ?_⟩) (by trivial) ?_
              rotate_left
              · (intro w hSw; go_simp; try (with_reducible rfl))
              try simp only [lgA, lgB, lgC, Act.put, lsA, lsB, lsC]
              refine' wpAnyH_take (i := 3) rfl (by kernel_rfl) (by kernel_rfl) (by kernel_rfl) (fun _ _ _ h => h) (Or.inl ⟨by kernel_rfl, ?_⟩) (by trivial) ?_
              rotate_left
              · (intro w hSw; go_simp; try (with_reducible rfl))
              try simp only [lgA, lgB, lgC, Act.put, lsA, lsB, lsC]
              refine' wpAnyH_take (i := 4) rfl (by kernel_rfl) (by kernel_rfl) (by kernel_rfl) (fun _ _ _ h => h) (Or.inl ⟨by kernel_rfl, ?_⟩) (by trivial) ?_
              rotate_left
              · (intro w hSw; go_simp; try (with_reducible rfl))
              try simp only [lgA, lgB, lgC, Act.put, lsA, lsB, lsC]
              refine' wpAnyH_take (i := 5) rfl (by kernel_rfl) (by kernel_rfl) (by kernel_rfl) (fun _ _ _ h => h) (Or.inl ⟨by kernel_rfl, ?_⟩) (by trivial) ?_
              rotate_left
              · (intro w hSw; go_simp; try (with_reducible rfl))
              try simp only [lgA, lgB, lgC, Act.put, lsA, lsB, lsC]
              refine' wpAnyH_take (i := 6) rfl (by kernel_rfl) (by kernel_rfl) (by kernel_rfl) (fun _ _ _ h => h) (Or.inl ⟨by kernel_rfl, ?_⟩) (by trivial) ?_
              rotate_left
              · (intro w hSw; go_simp; try (with_reducible rfl))
              try simp only [lgA, lgB, lgC, Act.put, lsA, lsB, lsC]
              refine' wpAnyH_take (i := 7) rfl (by kernel_rfl) (by kernel_rfl) (by kernel_rfl) (fun _ _ _ h => h) (Or.inl ⟨by kernel_rfl, ?_⟩) (by trivial) ?_
              rotate_left
              · (intro w hSw; go_simp; try (with_reducible rfl))
              try simp only [lgA, lgB, lgC, Act.put, lsA, lsB, lsC]
              refine' wpAnyH_take (i := 8) rfl (by kernel_rfl) (by kernel_rfl) (by kernel_rfl) (fun _ _ _ h => h) (Or.inl ⟨by kernel_rfl, ?_⟩) (by trivial) ?_
              rotate_left
              · (intro w hSw; go_simp; try (with_reducible rfl))
              try simp only [lgA, lgB, lgC, Act.put, lsA, lsB, lsC]
              refine' wpAnyH_take (i := 10) rfl (by kernel_rfl) (by kernel_rfl) (by kernel_rfl) (fun _ _ _ h => h) (Or.inl ⟨by kernel_rfl, ?_⟩) (by trivial) ?_
              rotate_left
              · (intro w hSw; go_simp; try (with_reducible rfl))
              try simp only [lgA, lgB, lgC, Act.put, lsA, lsB, lsC]
              refine' wpAnyH_take (i := 11) rfl (by kernel_rfl) (by kernel_rfl) (by kernel_rfl) (fun _ _ _ h => h) (Or.inl ⟨by kernel_rfl, ?_⟩) (by trivial) ?_
              rotate_left
              · (intro w hSw; go_simp; try (with_reducible rfl))
              try simp only [lgA, lgB, lgC, Act.put, lsA, lsB, lsC]
              refine' wpAnyH_take (i := 12) rfl (by kernel_rfl) (by kernel_rfl) (by kernel_rfl) (fun _ _ _ h => h) (Or.inl ⟨by kernel_rfl, ?_⟩) (by trivial) ?_
              rotate_left
              · (intro w hSw; go_simp; try (with_reducible rfl))
              try simp only [lgA, lgB, lgC, Act.put, lsA, lsB, lsC]
              refine wpAnyH_ready (rs := [9, 13]) (by kernel_rfl) (by simp) ?_
              refine (AllReadyH.cons rfl (fun K hK => ?_) (AllReadyH.cons rfl (fun K hK => ?_) AllReadyH.nil))
              · go_simp
                refine hK.out _ _ trivial (fun _ => ?_)
                clear hK K
                try simp only [lgA, lgB, lgC, Act.put, lsA, lsB, lsC]
                refine wpAnyH_ready (rs := [13]) (by kernel_rfl) (by simp) ?_
                refine (AllReadyH.cons rfl (fun K hK => ?_) AllReadyH.nil)
                go_simp
                refine hK.out _ _ trivial (fun _ => ?_)
                clear hK K
                try simp only [lgA, lgB, lgC, Act.put, lsA, lsB, lsC]
                refine' wpAnyH_take (i := 14) rfl (by kernel_rfl) (by kernel_rfl) (by kernel_rfl) (fun _ _ _ h => h) (Or.inl ⟨by kernel_rfl, ?_⟩) (by trivial) ?_
                rotate_left
                · (intro w hSw; go_simp; try (with_reducible rfl))
                try simp only [lgA, lgB, lgC, Act.put, lsA, lsB, lsC]
                refine wpAnyH_ready (rs := [15]) (by kernel_rfl) (by simp) ?_
                refine (AllReadyH.cons rfl (fun K hK => ?_) AllReadyH.nil)
                go_simp
                refine hK.out _ _ trivial (fun _ => ?_)
                clear hK K
                try simp only [lgA, lgB, lgC, Act.put, lsA, lsB, lsC]
                refine' wpAnyH_take (i := 16) rfl (by kernel_rfl) (by kernel_rfl) (by kernel_rfl) (fun _ _ _ h => h) (Or.inl ⟨by kernel_rfl, ?_⟩) (by trivial) ?_
                rotate_left
                · (intro w hSw; go_simp; try (with_reducible rfl))
                try simp only [lgA, lgB, lgC, Act.put, lsA, lsB, lsC]
                refine wpAnyH_ready (rs := [17]) (by kernel_rfl) (by simp) ?_
                refine (AllReadyH.cons rfl (fun K hK => ?_) AllReadyH.nil)
                go_simp
                refine hK.out _ _ trivial (fun _ => ?_)
                clear hK K
                try simp only [lgA, lgB, lgC, Act.put, lsA, lsB, lsC]
                refine wpAnyH_done (by kernel_rfl) ?_ _
                exact ⟨by kernel_rfl, HSW⟩
              · go_simp
                refine hK.out _ _ trivial (fun _ => ?_)
                clear hK K
                try simp only [lgA, lgB, lgC, Act.put, lsA, lsB, lsC]
                refine wpAnyH_ready (rs := [9]) (by kernel_rfl) (by simp) ?_
                refine (AllReadyH.cons rfl (fun K hK => ?_) AllReadyH.nil)
                go_simp
                refine hK.out _ _ trivial (fun _ => ?_)
                clear hK K
                try simp only [lgA, lgB, lgC, Act.put, lsA, lsB, lsC]
                refine' wpAnyH_take (i := 14) rfl (by kernel_rfl) (by kernel_rfl) (by kernel_rfl) (fun _ _ _ h => h) (Or.inl ⟨by kernel_rfl, ?_⟩) (by trivial) ?_
                rotate_left
                · (intro w hSw; go_simp; try (with_reducible rfl))
                try simp only [lgA, lgB, lgC, Act.put, lsA, lsB, lsC]
                refine wpAnyH_ready (rs := [15]) (by kernel_rfl) (by simp) ?_
                refine (AllReadyH.cons rfl (fun K hK => ?_) AllReadyH.nil)
                go_simp
                refine hK.out _ _ trivial (fun _ => ?_)
                clear hK K
                try simp only [lgA, lgB, lgC, Act.put, lsA, lsB, lsC]
                refine' wpAnyH_take (i := 16) rfl (by kernel_rfl) (by kernel_rfl) (by kernel_rfl) (fun _ _ _ h => h) (Or.inl ⟨by kernel_rfl, ?_⟩) (by trivial) ?_
                rotate_left
                · (intro w hSw; go_simp; try (with_reducible rfl))
                try simp only [lgA, lgB, lgC, Act.put, lsA, lsB, lsC]
                refine wpAnyH_ready (rs := [17]) (by kernel_rfl) (by simp) ?_
                refine (AllReadyH.cons rfl (fun K hK => ?_) AllReadyH.nil)
                go_simp
                refine hK.out _ _ trivial (fun _ => ?_)
                clear hK K
                try simp only [lgA, lgB, lgC, Act.put, lsA, lsB, lsC]
                refine wpAnyH_done (by kernel_rfl) ?_ _
                exact ⟨by kernel_rfl, HSW⟩
            · intro t X HS
              simp only [puts, List.foldl_cons, List.foldl_nil, Act.put, List.setIfInBounds_toArray, List.set_cons_zero, List.set_cons_succ]
              go_wp2
              go_roundw
              case rel => exact ⟨k, by go_num, by have := HKJ.out; omega, by have := HKJ.out; omega, HS⟩
              case measure => have := HKJ.out; simp [intOf]; omega
          | false =>
            clear hb cy cz
            go_wp2
            go_roundw
            case rel => exact ⟨i + 1, by go_num, by omega, by omega, HQ⟩
            case measure => simp [intOf]; omega
        · have aj : ¬ (a : Int) < (j : Int) := by omega
          have dj : decide ((a : Int) < (j : Int)) = false := decide_eq_false aj
          go_upto_region 4 with fail
          go_quiet (first | (go_at_call 56; with_reducible exact Calls.quiet_of_same (less_any _ _ _)))
          have HQ := hid (HS2.out.drewN nq)
          obtain ⟨V, hV⟩ : ∃ U, wr.drewN nq = U := ⟨_, rfl⟩
          rw [hV] at HQ ⊢
          clear hV
          go_wp2
          go_roundw
          case rel => exact ⟨i + 1, by go_num, by omega, by omega, HQ⟩
          case measure => simp [intOf]; omega
    · go_wp2
      go_end0
      exact ⟨rfl, HS.out⟩
end Go.Proofs.Ytphhllppgelceaa.Sr
