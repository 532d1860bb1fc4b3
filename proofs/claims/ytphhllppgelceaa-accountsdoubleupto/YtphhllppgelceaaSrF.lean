/-
  partialInsertionSort.
-/
import Derived.Test.YtphhllppgelceaaSrD
namespace Go.Proofs.Ytphhllppgelceaa.Sr
open List renaming getElem_toArray → lgA, getElem_cons_succ → lgB, getElem_cons_zero → lgC, setIfInBounds_toArray → lsA, set_cons_zero → lsB, set_cons_succ → lsC
open Go.RowKit Go.Deep
set_option linter.unusedVariables false
set_option linter.unusedSimpArgs false
set_option maxHeartbeats 8000000
set_option maxRecDepth 100000
attribute [local go_sem ↓] Go.wp_at_zero Go.wp_at_succ
theorem pins_any (g cap n : Nat) (l0 : List Int) (a b : Nat) (w0 : World) (h : Uz w0 g n l0) (hab : a < b) (hbn : b ≤ n) (hn : n ≤ 1152921504606846976) :
    Calls Try.prog 55 #[.slice (some ⟨g, 0, none⟩) n cap, .int .i64 a, .int .i64 b] w0 fun e w' => ∃ (q : Bool), e = .returned (.bool q) ∧ Sz w0 w' g n l0 := by
  have HS := hid h.sz
  have wa : IntKind.i64.wrap ((a : Int) + 1) = ((a + 1 : Nat) : Int) := by rw [IntKind.wrap_i64]; omega
  clear h
  go_enter Try.func55, Try.ntmps55
  go_upto_region 3 with fail
  go_loopw [7, 8] (fun iv cv wr => ∃ i c : Nat, iv = .int .i64 i ∧ cv = .int .i64 c ∧ a < i ∧ i ≤ b ∧ c ≤ 5 ∧ Hid (Sz w0 wr g n l0)) (fun _ cv _ => 6 - (intOf cv).toNat)
  case atStart => exact ⟨a + 1, 0, rfl, rfl, by omega, by omega, by omega, HS⟩
  case round =>
    clear HS
    obtain ⟨i, c, rfl, rfl, i0, i1, c1, HS⟩ := hrel
    by_cases hc5 : c < 5
    · have ic5 : (c : Int) < 5 := by omega
      have wc : IntKind.i64.wrap ((c : Int) + 1) = ((c + 1 : Nat) : Int) := by rw [IntKind.wrap_i64]; omega
      go_upto_region 5 with fail
      go_loopw [7] (fun iv wr => ∃ i' : Nat, iv = .int .i64 i' ∧ i ≤ i' ∧ i' ≤ b ∧ Hid (Sz w0 wr g n l0)) (fun iv _ => b + 1 - (intOf iv).toNat)
      case atStart => exact ⟨i, rfl, by omega, by omega, HS⟩
      case round =>
        clear HS
        obtain ⟨i', rfl, ii0, ii1, HS⟩ := hrel
        obtain ⟨k, hk⟩ : ∃ k, i' = k + 1 := ⟨i' - 1, by omega⟩
        have wk : IntKind.i64.wrap ((i' : Int) - 1) = (k : Int) := by rw [IntKind.wrap_i64]; omega
        have HKK := hid hk
        have hkn' : k < n := by omega
        have kk0 : (0 : Int) ≤ (k : Int) := by omega
        have kk2 : (k : Int) < (n : Int) := by omega
        clear hk
        go_upto_region 5 with fail
        refine reg_any2 [17, 18, 19, 20, 21, 22, 23, 24, 25, 26, 27, 28, 29, 30, 31, 32] (fun t X => Hid (∃ β : Bool, t 32 = .bool β ∧ (β = true → i' < b)) ∧ Hid (Sz w0 X g n l0)) ?_ ?_
        · by_cases hle : i' < b
          · have ile : (i' : Int) < (b : Int) := by omega
            obtain ⟨l, p1, u1, k1⟩ := HS.out
            obtain ⟨y, hy⟩ : ∃ y, gd l i' = y := ⟨_, rfl⟩
            have cy : wr.cell? ⟨g, i', none⟩ = some (.int .u32 y) := by rw [← hy]; exact u1.cell (by omega)
            clear hy
            obtain ⟨z, hz⟩ : ∃ y, gd l k = y := ⟨_, rfl⟩
            have cz : wr.cell? ⟨g, k, none⟩ = some (.int .u32 z) := by rw [← hz]; exact u1.cell hkn'
            clear hz
            clear p1 u1 k1 l; have iz0 : (0 : Int) ≤ (i' : Int) := (by omega); have iz2 : (i' : Int) < (n : Int) := (by omega)
            have HLE := hid hle
            clear hle
            go_quiet (first | (go_at_call 56; with_reducible exact Calls.quiet_of_same (less_any _ _ _)))
            have HQ := hid (HS.out.drewN nq)
            exact ⟨by kernel_rfl, hid ⟨_, by rfl, fun _ => HLE.out⟩, HQ⟩
          · have ile' : ¬ (i' : Int) < (b : Int) := by omega
            have ile : decide ((i' : Int) < (b : Int)) = false := decide_eq_false (by omega)
            go_quiet (first | (go_at_call 56; with_reducible exact Calls.quiet_of_same (less_any _ _ _)))
            have HQ := hid (HS.out.drewN nq)
            exact ⟨by kernel_rfl, hid ⟨false, by rfl, fun e => by cases e⟩, HQ⟩
        · rintro t X ⟨HB, HSX⟩
          obtain ⟨β, eβ, hβ⟩ := HB.out
          simp only [puts, List.foldl_cons, List.foldl_nil, Act.put, List.setIfInBounds_toArray, List.set_cons_zero, List.set_cons_succ]
          rw [eβ]
          clear eβ HB
          have wi : IntKind.i64.wrap ((i' : Int) + 1) = ((i' + 1 : Nat) : Int) := by rw [IntKind.wrap_i64]; omega
          cases β with
          | true =>
            have hβ := hβ rfl
            go_wp2
            go_roundw
            case rel => exact ⟨i' + 1, by go_num, by omega, by omega, HSX⟩
            case measure => first | (simp [intOf]; done) | (simp [intOf]; omega)
          | false =>
            clear hβ HS wi wk HKK hkn' kk0 kk2
            have HS := HSX
            clear HSX
            obtain ⟨i, hi⟩ : ∃ k, i' = k := ⟨_, rfl⟩
            rw [hi] at ii0 ii1 ⊢
            have i0 : a < i := by omega
            have i1 : i ≤ b := ii1
            clear hi
            by_cases hib : i = b
            · subst hib
              go_wp2
              go_ret
              exact ⟨true, rfl, HS.out⟩
            · have eib : ((i : Int) == (b : Int)) = false := by simp; omega
              have wba : IntKind.i64.wrap ((b : Int) - (a : Int)) = (b : Int) - (a : Int) := by rw [IntKind.wrap_i64]; omega
              by_cases h50 : (b : Int) - (a : Int) < 50
              · go_wp2
                go_ret
                exact ⟨false, rfl, HS.out⟩
              · have d50 : decide ((b : Int) - (a : Int) < 50) = false := decide_eq_false h50
                obtain ⟨q, hq⟩ : ∃ q, i = q + 1 := ⟨i - 1, by omega⟩
                have wq : IntKind.i64.wrap ((i : Int) - 1) = (q : Int) := by rw [IntKind.wrap_i64]; omega
                have HQQ := hid hq
                have hqn : q < n := by omega
                have hin' : i < n := by omega
                clear hq
                obtain ⟨l, p1, u1, k1⟩ := HS.out
                have P1 := hid p1
                have U1 := hid u1
                have K1 := hid k1
                have hin : i < n := by omega
                have hjn : q < n := by omega
                have si0 : (0 : Int) ≤ (i : Int) := by omega
                have si2 : (i : Int) < (n : Int) := by omega
                have sq0 : (0 : Int) ≤ (q : Int) := by omega
                have sq2 : (q : Int) < (n : Int) := by omega
                clear p1 u1 k1 HS
                go_upto_region 11 with fail
                refine reg_any [42, 43, 44, 45, 46, 47, 48, 49, 50, 51, 52, 53, 54, 55, 56, 57] (fun X => Hid (Sz w0 X g n l0)) ?_ ?_
                · have U2 := hid (U1.out.same (w' := X.drew) rfl)
                  have K2 := hid (K1.out.trans (Kp.drew _ X) (fun _ _ e => e))
                  obtain ⟨V, hV⟩ : ∃ U, X.drew = U := ⟨_, rfl⟩
                  rw [hV] at U2 K2
                  obtain ⟨xi, hxi⟩ : ∃ x, gd l i = x := ⟨_, rfl⟩
                  obtain ⟨xj, hxj⟩ : ∃ x, gd l q = x := ⟨_, rfl⟩
                  have ci : V.cell? ⟨g, i, none⟩ = some (.int .u32 xi) := by rw [← hxi]; exact U2.out.cell hin
                  have cj : V.cell? ⟨g, q, none⟩ = some (.int .u32 xj) := by rw [← hxj]; exact U2.out.cell hjn
                  have fi := U2.out.frz i
                  have fj := U2.out.frz q
                  have U3 := hid (U2.out.set hin xj)
                  have cj3 := U3.out.cell hjn
                  have fj3 := U3.out.frz q
                  have HSW := hid (Sz.swap P1.out U2.out K2.out hin hjn)
                  rw [hxi, hxj] at HSW
                  refine wp_region_held_drew (S := fun _ => True) (by kernel_rfl) trivial (fun _ => ?_)
                  rw [hV]
                  clear hV hxi hxj
                  refine' wpAnyH_take (i := 0) rfl (by kernel_rfl) (by kernel_rfl) (by kernel_rfl) (fun _ _ _ h => h) (Or.inl ⟨by kernel_rfl, ?_⟩) (by trivial) ?_
                  rotate_left
                  · (intro w hSw; go_simp; try (with_reducible rfl))
                  try simp only [lgA, lgB, lgC, Act.put, lsA, lsB, lsC]
                  refine' wpAnyH_take (i := 1) rfl (by kernel_rfl) (by kernel_rfl) (by kernel_rfl) (fun _ _ _ h => h) (Or.inl ⟨by kernel_rfl, ?_⟩) (by trivial) ?_
                  rotate_left
                  · (intro w hSw; go_simp; try (with_reducible rfl))
                  try simp only [lgA, lgB, lgC, Act.put, lsA, lsB, lsC]
                  refine' wpAnyH_take (i := 2) rfl (by kernel_rfl) (by kernel_rfl) (by kernel_rfl) (fun _ _ _ h => h) (Or.inl ⟨by kernel_rfl, ?_⟩) (by trivial) ?_
                  rotate_left
                  · (intro w hSw; go_simp; try (with_reducible rfl))
                  try simp only [lgA, lgB, lgC, Act.put, lsA, lsB, lsC]
                  refine' wpAnyH_take (i := 3) rfl (by kernel_rfl) (by kernel_rfl) (by kernel_rfl) (fun _ _ _ h => h) (Or.inl ⟨by kernel_rfl, ?_⟩) (by trivial) ?_
                  rotate_left
                  · (intro w hSw; go_simp; try (with_reducible rfl))
                  try simp only [lgA, lgB, lgC, Act.put, lsA, lsB, lsC]
                  refine' wpAnyH_take (i := 4) rfl (by kernel_rfl) (by kernel_rfl) (by kernel_rfl) (fun _ _ _ h => h) (Or.inl ⟨by kernel_rfl, ?_⟩) (by trivial) ?_
                  rotate_left
                  · (intro w hSw; go_simp; try (with_reducible rfl))
                  try simp only [lgA, lgB, lgC, Act.put, lsA, lsB, lsC]
                  refine' wpAnyH_take (i := 5) rfl (by kernel_rfl) (by kernel_rfl) (by kernel_rfl) (fun _ _ _ h => h) (Or.inl ⟨by kernel_rfl, ?_⟩) (by trivial) ?_
                  rotate_left
                  · (intro w hSw; go_simp; try (with_reducible rfl))
                  try simp only [lgA, lgB, lgC, Act.put, lsA, lsB, lsC]
                  refine' wpAnyH_take (i := 6) rfl (by kernel_rfl) (by kernel_rfl) (by kernel_rfl) (fun _ _ _ h => h) (Or.inl ⟨by kernel_rfl, ?_⟩) (by trivial) ?_
                  rotate_left
                  · (intro w hSw; go_simp; try (with_reducible rfl))
                  try simp only [lgA, lgB, lgC, Act.put, lsA, lsB, lsC]
                  refine' wpAnyH_take (i := 7) rfl (by kernel_rfl) (by kernel_rfl) (by kernel_rfl) (fun _ _ _ h => h) (Or.inl ⟨by kernel_rfl, ?_⟩) (by trivial) ?_
                  rotate_left
                  · (intro w hSw; go_simp; try (with_reducible rfl))
                  try simp only [lgA, lgB, lgC, Act.put, lsA, lsB, lsC]
                  refine' wpAnyH_take (i := 8) rfl (by kernel_rfl) (by kernel_rfl) (by kernel_rfl) (fun _ _ _ h => h) (Or.inl ⟨by kernel_rfl, ?_⟩) (by trivial) ?_
                  rotate_left
                  · (intro w hSw; go_simp; try (with_reducible rfl))
                  try simp only [lgA, lgB, lgC, Act.put, lsA, lsB, lsC]
                  refine' wpAnyH_take (i := 10) rfl (by kernel_rfl) (by kernel_rfl) (by kernel_rfl) (fun _ _ _ h => h) (Or.inl ⟨by kernel_rfl, ?_⟩) (by trivial) ?_
                  rotate_left
                  · (intro w hSw; go_simp; try (with_reducible rfl))
                  try simp only [lgA, lgB, lgC, Act.put, lsA, lsB, lsC]
                  refine' wpAnyH_take (i := 11) rfl (by kernel_rfl) (by kernel_rfl) (by kernel_rfl) (fun _ _ _ h => h) (Or.inl ⟨by kernel_rfl, ?_⟩) (by trivial) ?_
                  rotate_left
                  · (intro w hSw; go_simp; try (with_reducible rfl))
                  try simp only [lgA, lgB, lgC, Act.put, lsA, lsB, lsC]
                  refine' wpAnyH_take (i := 12) rfl (by kernel_rfl) (by kernel_rfl) (by kernel_rfl) (fun _ _ _ h => h) (Or.inl ⟨by kernel_rfl, ?_⟩) (by trivial) ?_
                  rotate_left
                  · (intro w hSw; go_simp; try (with_reducible rfl))
                  try simp only [lgA, lgB, lgC, Act.put, lsA, lsB, lsC]
                  refine wpAnyH_ready (rs := [9, 13]) (by kernel_rfl) (by simp) ?_
                  refine (AllReadyH.cons rfl (fun K hK => ?_) (AllReadyH.cons rfl (fun K hK => ?_) AllReadyH.nil))
                  · go_simp
                    refine hK.out _ _ trivial (fun _ => ?_)
                    clear hK K
                    try simp only [lgA, lgB, lgC, Act.put, lsA, lsB, lsC]
                    refine wpAnyH_ready (rs := [13]) (by kernel_rfl) (by simp) ?_
                    refine (AllReadyH.cons rfl (fun K hK => ?_) AllReadyH.nil)
                    go_simp
                    refine hK.out _ _ trivial (fun _ => ?_)
                    clear hK K
                    try simp only [lgA, lgB, lgC, Act.put, lsA, lsB, lsC]
                    refine' wpAnyH_take (i := 14) rfl (by kernel_rfl) (by kernel_rfl) (by kernel_rfl) (fun _ _ _ h => h) (Or.inl ⟨by kernel_rfl, ?_⟩) (by trivial) ?_
                    rotate_left
                    · (intro w hSw; go_simp; try (with_reducible rfl))
                    try simp only [lgA, lgB, lgC, Act.put, lsA, lsB, lsC]
                    refine wpAnyH_ready (rs := [15]) (by kernel_rfl) (by simp) ?_
                    refine (AllReadyH.cons rfl (fun K hK => ?_) AllReadyH.nil)
                    go_simp
                    refine hK.out _ _ trivial (fun _ => ?_)
                    clear hK K
                    try simp only [lgA, lgB, lgC, Act.put, lsA, lsB, lsC]
                    refine' wpAnyH_take (i := 16) rfl (by kernel_rfl) (by kernel_rfl) (by kernel_rfl) (fun _ _ _ h => h) (Or.inl ⟨by kernel_rfl, ?_⟩) (by trivial) ?_
                    rotate_left
                    · (intro w hSw; go_simp; try (with_reducible rfl))
                    try simp only [lgA, lgB, lgC, Act.put, lsA, lsB, lsC]
                    refine wpAnyH_ready (rs := [17]) (by kernel_rfl) (by simp) ?_
                    refine (AllReadyH.cons rfl (fun K hK => ?_) AllReadyH.nil)
                    go_simp
                    refine hK.out _ _ trivial (fun _ => ?_)
                    clear hK K
                    try simp only [lgA, lgB, lgC, Act.put, lsA, lsB, lsC]
                    refine wpAnyH_done (by kernel_rfl) ?_ _
                    exact ⟨by kernel_rfl, HSW⟩
                  · go_simp
                    refine hK.out _ _ trivial (fun _ => ?_)
                    clear hK K
                    try simp only [lgA, lgB, lgC, Act.put, lsA, lsB, lsC]
                    refine wpAnyH_ready (rs := [9]) (by kernel_rfl) (by simp) ?_
                    refine (AllReadyH.cons rfl (fun K hK => ?_) AllReadyH.nil)
                    go_simp
                    refine hK.out _ _ trivial (fun _ => ?_)
                    clear hK K
                    try simp only [lgA, lgB, lgC, Act.put, lsA, lsB, lsC]
                    refine' wpAnyH_take (i := 14) rfl (by kernel_rfl) (by kernel_rfl) (by kernel_rfl) (fun _ _ _ h => h) (Or.inl ⟨by kernel_rfl, ?_⟩) (by trivial) ?_
                    rotate_left
                    · (intro w hSw; go_simp; try (with_reducible rfl))
                    try simp only [lgA, lgB, lgC, Act.put, lsA, lsB, lsC]
                    refine wpAnyH_ready (rs := [15]) (by kernel_rfl) (by simp) ?_
                    refine (AllReadyH.cons rfl (fun K hK => ?_) AllReadyH.nil)
                    go_simp
                    refine hK.out _ _ trivial (fun _ => ?_)
                    clear hK K
                    try simp only [lgA, lgB, lgC, Act.put, lsA, lsB, lsC]
                    refine' wpAnyH_take (i := 16) rfl (by kernel_rfl) (by kernel_rfl) (by kernel_rfl) (fun _ _ _ h => h) (Or.inl ⟨by kernel_rfl, ?_⟩) (by trivial) ?_
                    rotate_left
                    · (intro w hSw; go_simp; try (with_reducible rfl))
                    try simp only [lgA, lgB, lgC, Act.put, lsA, lsB, lsC]
                    refine wpAnyH_ready (rs := [17]) (by kernel_rfl) (by simp) ?_
                    refine (AllReadyH.cons rfl (fun K hK => ?_) AllReadyH.nil)
                    go_simp
                    refine hK.out _ _ trivial (fun _ => ?_)
                    clear hK K
                    try simp only [lgA, lgB, lgC, Act.put, lsA, lsB, lsC]
                    refine wpAnyH_done (by kernel_rfl) ?_ _
                    exact ⟨by kernel_rfl, HSW⟩
                · intro t X HS
                  simp only [puts, List.foldl_cons, List.foldl_nil, Act.put, List.setIfInBounds_toArray, List.set_cons_zero, List.set_cons_succ]
                  have wia : IntKind.i64.wrap ((i : Int) - (a : Int)) = (i : Int) - (a : Int) := by rw [IntKind.wrap_i64]; omega
                  by_cases h1 : 2 ≤ (i : Int) - (a : Int)
                  · go_upto_region 14 with fail
                    go_loopw [9] (fun jv wr => ∃ j : Nat, jv = .int .i64 j ∧ j < b ∧ Hid (Sz w0 wr g n l0)) (fun jv _ => (intOf jv).toNat)
                    case atStart => exact ⟨q, rfl, by have := HQQ.out; omega, HS⟩
                    case round =>
                      clear HS
                      obtain ⟨j, rfl, j1, HS⟩ := hrel
                      by_cases hjb : 1 ≤ j
                      · have ijb : (1 : Int) ≤ (j : Int) := by omega
                        obtain ⟨k, hk⟩ : ∃ k, j = k + 1 := ⟨j - 1, by omega⟩
                        have wk : IntKind.i64.wrap ((j : Int) - 1) = (k : Int) := by rw [IntKind.wrap_i64]; omega
                        have hjn' : j < n := by omega
                        have hkn' : k < n := by omega
                        have j0' : (0 : Int) ≤ (j : Int) := by omega
                        have j2 : (j : Int) < (n : Int) := by omega
                        have k0' : (0 : Int) ≤ (k : Int) := by omega
                        have k2 : (k : Int) < (n : Int) := by omega
                        have HKK := hid hk
                        clear hk
                        go_upto_region 16 with fail
                        refine reg_any2 [68, 69, 70, 71, 72, 73, 74, 75, 76, 77, 78] (fun t X => Hid (∃ β : Bool, t 78 = .bool β ∧ (β = true → True)) ∧ Hid (Sz w0 X g n l0)) ?_ ?_
                        · obtain ⟨l, p1, u1, k1⟩ := HS.out
                          obtain ⟨y, hy⟩ : ∃ y, gd l j = y := ⟨_, rfl⟩
                          have cy : wr.cell? ⟨g, j, none⟩ = some (.int .u32 y) := by rw [← hy]; exact u1.cell hjn'
                          clear hy
                          obtain ⟨z, hz⟩ : ∃ y, gd l k = y := ⟨_, rfl⟩
                          have cz : wr.cell? ⟨g, k, none⟩ = some (.int .u32 z) := by rw [← hz]; exact u1.cell hkn'
                          clear hz
                          clear p1 u1 k1 l
                          go_quiet (first | (go_at_call 56; with_reducible exact Calls.quiet_of_same (less_any _ _ _)))
                          have HQ := hid (HS.out.drewN nq)
                          exact ⟨by kernel_rfl, hid ⟨_, by rfl, fun _ => trivial⟩, HQ⟩
                        · rintro t X ⟨HB, HSX⟩
                          obtain ⟨β, eβ, hβ⟩ := HB.out
                          simp only [puts, List.foldl_cons, List.foldl_nil, Act.put, List.setIfInBounds_toArray, List.set_cons_zero, List.set_cons_succ]
                          rw [eβ]
                          clear eβ HB
                          clear HS
                          have HS := HSX
                          clear HSX hβ
                          cases β with
                          | true =>
                            have wbi : IntKind.i64.wrap ((b : Int) - (i : Int)) = (b : Int) - (i : Int) := by rw [IntKind.wrap_i64]; omega
                            by_cases h2 : 2 ≤ (b : Int) - (i : Int)
                            · have ri : (2 : Int) ≤ (b : Int) - (i : Int) := by omega
                              have wi2 : IntKind.i64.wrap ((i : Int) + 1) = ((i + 1 : Nat) : Int) := by rw [IntKind.wrap_i64]; omega
                              go_upto_region 20 with fail
                              go_loopw [10] (fun jv wr => ∃ j : Nat, jv = .int .i64 j ∧ 1 ≤ j ∧ j ≤ b ∧ Hid (Sz w0 wr g n l0)) (fun jv _ => b + 1 - (intOf jv).toNat)
                              case atStart => exact ⟨i + 1, rfl, by omega, by omega, HS⟩
                              case round =>
                                clear HS
                                obtain ⟨j, rfl, j0, j1, HS⟩ := hrel
                                by_cases hjb : j < b
                                · have ijb : (j : Int) < (b : Int) := by omega
                                  obtain ⟨k, hk⟩ : ∃ k, j = k + 1 := ⟨j - 1, by omega⟩
                                  have wk : IntKind.i64.wrap ((j : Int) - 1) = (k : Int) := by rw [IntKind.wrap_i64]; omega
                                  have wj1 : IntKind.i64.wrap ((j : Int) + 1) = ((j + 1 : Nat) : Int) := by rw [IntKind.wrap_i64]; omega
                                  have hjn' : j < n := by omega
                                  have hkn' : k < n := by omega
                                  have j0' : (0 : Int) ≤ (j : Int) := by omega
                                  have j2 : (j : Int) < (n : Int) := by omega
                                  have k0' : (0 : Int) ≤ (k : Int) := by omega
                                  have k2 : (k : Int) < (n : Int) := by omega
                                  have HKK := hid hk
                                  clear hk
                                  go_upto_region 22 with fail
                                  refine reg_any2 [106, 107, 108, 109, 110, 111, 112, 113, 114, 115, 116] (fun t X => Hid (∃ β : Bool, t 116 = .bool β ∧ (β = true → True)) ∧ Hid (Sz w0 X g n l0)) ?_ ?_
                                  · obtain ⟨l, p1, u1, k1⟩ := HS.out
                                    obtain ⟨y, hy⟩ : ∃ y, gd l j = y := ⟨_, rfl⟩
                                    have cy : wr.cell? ⟨g, j, none⟩ = some (.int .u32 y) := by rw [← hy]; exact u1.cell hjn'
                                    clear hy
                                    obtain ⟨z, hz⟩ : ∃ y, gd l k = y := ⟨_, rfl⟩
                                    have cz : wr.cell? ⟨g, k, none⟩ = some (.int .u32 z) := by rw [← hz]; exact u1.cell hkn'
                                    clear hz
                                    clear p1 u1 k1 l
                                    go_quiet (first | (go_at_call 56; with_reducible exact Calls.quiet_of_same (less_any _ _ _)))
                                    have HQ := hid (HS.out.drewN nq)
                                    exact ⟨by kernel_rfl, hid ⟨_, by rfl, fun _ => trivial⟩, HQ⟩
                                  · rintro t X ⟨HB, HSX⟩
                                    obtain ⟨β, eβ, hβ⟩ := HB.out
                                    simp only [puts, List.foldl_cons, List.foldl_nil, Act.put, List.setIfInBounds_toArray, List.set_cons_zero, List.set_cons_succ]
                                    rw [eβ]
                                    clear eβ HB
                                    clear HS
                                    have HS := HSX
                                    clear HSX hβ
                                    cases β with
                                    | true =>
                                      go_wp2
                                      go_roundw
                                      case rel => exact ⟨i, c + 1, by go_num, by go_num, by omega, by omega, by omega, HS⟩
                                      case measure => first | (simp [intOf]; done) | (simp [intOf]; omega)
                                    | false =>
                                      obtain ⟨l, p1, u1, k1⟩ := HS.out
                                      have P1 := hid p1
                                      have U1 := hid u1
                                      have K1 := hid k1
                                      have hin : j < n := by omega
                                      have hjn : k < n := by omega
                                      have sj0 : (0 : Int) ≤ (j : Int) := by omega
                                      have sj2 : (j : Int) < (n : Int) := by omega
                                      have sk0 : (0 : Int) ≤ (k : Int) := by omega
                                      have sk2 : (k : Int) < (n : Int) := by omega
                                      clear p1 u1 k1 HS
                                      go_upto_region 23 with fail
                                      refine reg_any [117, 118, 119, 120, 121, 122, 123, 124, 125, 126, 127, 128, 129, 130, 131, 132] (fun X => Hid (Sz w0 X g n l0)) ?_ ?_
                                      · have U2 := hid (U1.out.same (w' := X.drew) rfl)
                                        have K2 := hid (K1.out.trans (Kp.drew _ X) (fun _ _ e => e))
                                        obtain ⟨V, hV⟩ : ∃ U, X.drew = U := ⟨_, rfl⟩
                                        rw [hV] at U2 K2
                                        obtain ⟨xi, hxi⟩ : ∃ x, gd l j = x := ⟨_, rfl⟩
                                        obtain ⟨xj, hxj⟩ : ∃ x, gd l k = x := ⟨_, rfl⟩
                                        have ci : V.cell? ⟨g, j, none⟩ = some (.int .u32 xi) := by rw [← hxi]; exact U2.out.cell hin
                                        have cj : V.cell? ⟨g, k, none⟩ = some (.int .u32 xj) := by rw [← hxj]; exact U2.out.cell hjn
                                        have fi := U2.out.frz j
                                        have fj := U2.out.frz k
                                        have U3 := hid (U2.out.set hin xj)
                                        have cj3 := U3.out.cell hjn
                                        have fj3 := U3.out.frz k
                                        have HSW := hid (Sz.swap P1.out U2.out K2.out hin hjn)
                                        rw [hxi, hxj] at HSW
                                        refine wp_region_held_drew (S := fun _ => True) (by kernel_rfl) trivial (fun _ => ?_)
                                        rw [hV]
                                        clear hV hxi hxj
                                        refine' wpAnyH_take (i := 0) rfl (by kernel_rfl) (by kernel_rfl) (by kernel_rfl) (fun _ _ _ h => h) (Or.inl ⟨by kernel_rfl, ?_⟩) (by trivial) ?_
                                        rotate_left
                                        · (intro w hSw; go_simp; try (with_reducible rfl))
                                        try simp only [lgA, lgB, lgC, Act.put, lsA, lsB, lsC]
                                        refine' wpAnyH_take (i := 1) rfl (by kernel_rfl) (by kernel_rfl) (by kernel_rfl) (fun _ _ _ h => h) (Or.inl ⟨by kernel_rfl, ?_⟩) (by trivial) ?_
                                        rotate_left
                                        · (intro w hSw; go_simp; try (with_reducible rfl))
                                        try simp only [lgA, lgB, lgC, Act.put, lsA, lsB, lsC]
                                        refine' wpAnyH_take (i := 2) rfl (by kernel_rfl) (by kernel_rfl) (by kernel_rfl) (fun _ _ _ h => h) (Or.inl ⟨by kernel_rfl, ?_⟩) (by trivial) ?_
                                        rotate_left
                                        · (intro w hSw; go_simp; try (with_reducible rfl))
                                        try simp only [lgA, lgB, lgC, Act.put, lsA, lsB, lsC]
                                        refine' wpAnyH_take (i := 3) rfl (by kernel_rfl) (by kernel_rfl) (by kernel_rfl) (fun _ _ _ h => h) (Or.inl ⟨by kernel_rfl, ?_⟩) (by trivial) ?_
                                        rotate_left
                                        · (intro w hSw; go_simp; try (with_reducible rfl))
                                        try simp only [lgA, lgB, lgC, Act.put, lsA, lsB, lsC]
                                        refine' wpAnyH_take (i := 4) rfl (by kernel_rfl) (by kernel_rfl) (by kernel_rfl) (fun _ _ _ h => h) (Or.inl ⟨by kernel_rfl, ?_⟩) (by trivial) ?_
                                        rotate_left
                                        · (intro w hSw; go_simp; try (with_reducible rfl))
                                        try simp only [lgA, lgB, lgC, Act.put, lsA, lsB, lsC]
                                        refine' wpAnyH_take (i := 5) rfl (by kernel_rfl) (by kernel_rfl) (by kernel_rfl) (fun _ _ _ h => h) (Or.inl ⟨by kernel_rfl, ?_⟩) (by trivial) ?_
                                        rotate_left
                                        · (intro w hSw; go_simp; try (with_reducible rfl))
                                        try simp only [lgA, lgB, lgC, Act.put, lsA, lsB, lsC]
                                        refine' wpAnyH_take (i := 6) rfl (by kernel_rfl) (by kernel_rfl) (by kernel_rfl) (fun _ _ _ h => h) (Or.inl ⟨by kernel_rfl, ?_⟩) (by trivial) ?_
                                        rotate_left
                                        · (intro w hSw; go_simp; try (with_reducible rfl))
                                        try simp only [lgA, lgB, lgC, Act.put, lsA, lsB, lsC]
                                        refine' wpAnyH_take (i := 7) rfl (by kernel_rfl) (by kernel_rfl) (by kernel_rfl) (fun _ _ _ h => h) (Or.inl ⟨by kernel_rfl, ?_⟩) (by trivial) ?_
                                        rotate_left
                                        · (intro w hSw; go_simp; try (with_reducible rfl))
                                        try simp only [lgA, lgB, lgC, Act.put, lsA, lsB, lsC]
                                        refine' wpAnyH_take (i := 8) rfl (by kernel_rfl) (by kernel_rfl) (by kernel_rfl) (fun _ _ _ h => h) (Or.inl ⟨by kernel_rfl, ?_⟩) (by trivial) ?_
                                        rotate_left
                                        · (intro w hSw; go_simp; try (with_reducible rfl))
                                        try simp only [lgA, lgB, lgC, Act.put, lsA, lsB, lsC]
                                        refine' wpAnyH_take (i := 10) rfl (by kernel_rfl) (by kernel_rfl) (by kernel_rfl) (fun _ _ _ h => h) (Or.inl ⟨by kernel_rfl, ?_⟩) (by trivial) ?_
                                        rotate_left
                                        · (intro w hSw; go_simp; try (with_reducible rfl))
                                        try simp only [lgA, lgB, lgC, Act.put, lsA, lsB, lsC]
                                        refine' wpAnyH_take (i := 11) rfl (by kernel_rfl) (by kernel_rfl) (by kernel_rfl) (fun _ _ _ h => h) (Or.inl ⟨by kernel_rfl, ?_⟩) (by trivial) ?_
                                        rotate_left
                                        · (intro w hSw; go_simp; try (with_reducible rfl))
                                        try simp only [lgA, lgB, lgC, Act.put, lsA, lsB, lsC]
                                        refine' wpAnyH_take (i := 12) rfl (by kernel_rfl) (by kernel_rfl) (by kernel_rfl) (fun _ _ _ h => h) (Or.inl ⟨by kernel_rfl, ?_⟩) (by trivial) ?_
                                        rotate_left
                                        · (intro w hSw; go_simp; try (with_reducible rfl))
                                        try simp only [lgA, lgB, lgC, Act.put, lsA, lsB, lsC]
                                        refine wpAnyH_ready (rs := [9, 13]) (by kernel_rfl) (by simp) ?_
                                        refine (AllReadyH.cons rfl (fun K hK => ?_) (AllReadyH.cons rfl (fun K hK => ?_) AllReadyH.nil))
                                        · go_simp
                                          refine hK.out _ _ trivial (fun _ => ?_)
                                          clear hK K
                                          try simp only [lgA, lgB, lgC, Act.put, lsA, lsB, lsC]
                                          refine wpAnyH_ready (rs := [13]) (by kernel_rfl) (by simp) ?_
                                          refine (AllReadyH.cons rfl (fun K hK => ?_) AllReadyH.nil)
                                          go_simp
                                          refine hK.out _ _ trivial (fun _ => ?_)
                                          clear hK K
                                          try simp only [lgA, lgB, lgC, Act.put, lsA, lsB, lsC]
                                          refine' wpAnyH_take (i := 14) rfl (by kernel_rfl) (by kernel_rfl) (by kernel_rfl) (fun _ _ _ h => h) (Or.inl ⟨by kernel_rfl, ?_⟩) (by trivial) ?_
                                          rotate_left
                                          · (intro w hSw; go_simp; try (with_reducible rfl))
                                          try simp only [lgA, lgB, lgC, Act.put, lsA, lsB, lsC]
                                          refine wpAnyH_ready (rs := [15]) (by kernel_rfl) (by simp) ?_
                                          refine (AllReadyH.cons rfl (fun K hK => ?_) AllReadyH.nil)
                                          go_simp
                                          refine hK.out _ _ trivial (fun _ => ?_)
                                          clear hK K
                                          try simp only [lgA, lgB, lgC, Act.put, lsA, lsB, lsC]
                                          refine' wpAnyH_take (i := 16) rfl (by kernel_rfl) (by kernel_rfl) (by kernel_rfl) (fun _ _ _ h => h) (Or.inl ⟨by kernel_rfl, ?_⟩) (by trivial) ?_
                                          rotate_left
                                          · (intro w hSw; go_simp; try (with_reducible rfl))
                                          try simp only [lgA, lgB, lgC, Act.put, lsA, lsB, lsC]
                                          refine wpAnyH_ready (rs := [17]) (by kernel_rfl) (by simp) ?_
                                          refine (AllReadyH.cons rfl (fun K hK => ?_) AllReadyH.nil)
                                          go_simp
                                          refine hK.out _ _ trivial (fun _ => ?_)
                                          clear hK K
                                          try simp only [lgA, lgB, lgC, Act.put, lsA, lsB, lsC]
                                          refine wpAnyH_done (by kernel_rfl) ?_ _
                                          exact ⟨by kernel_rfl, HSW⟩
                                        · go_simp
                                          refine hK.out _ _ trivial (fun _ => ?_)
                                          clear hK K
                                          try simp only [lgA, lgB, lgC, Act.put, lsA, lsB, lsC]
                                          refine wpAnyH_ready (rs := [9]) (by kernel_rfl) (by simp) ?_
                                          refine (AllReadyH.cons rfl (fun K hK => ?_) AllReadyH.nil)
                                          go_simp
                                          refine hK.out _ _ trivial (fun _ => ?_)
                                          clear hK K
                                          try simp only [lgA, lgB, lgC, Act.put, lsA, lsB, lsC]
                                          refine' wpAnyH_take (i := 14) rfl (by kernel_rfl) (by kernel_rfl) (by kernel_rfl) (fun _ _ _ h => h) (Or.inl ⟨by kernel_rfl, ?_⟩) (by trivial) ?_
                                          rotate_left
                                          · (intro w hSw; go_simp; try (with_reducible rfl))
                                          try simp only [lgA, lgB, lgC, Act.put, lsA, lsB, lsC]
                                          refine wpAnyH_ready (rs := [15]) (by kernel_rfl) (by simp) ?_
                                          refine (AllReadyH.cons rfl (fun K hK => ?_) AllReadyH.nil)
                                          go_simp
                                          refine hK.out _ _ trivial (fun _ => ?_)
                                          clear hK K
                                          try simp only [lgA, lgB, lgC, Act.put, lsA, lsB, lsC]
                                          refine' wpAnyH_take (i := 16) rfl (by kernel_rfl) (by kernel_rfl) (by kernel_rfl) (fun _ _ _ h => h) (Or.inl ⟨by kernel_rfl, ?_⟩) (by trivial) ?_
                                          rotate_left
                                          · (intro w hSw; go_simp; try (with_reducible rfl))
                                          try simp only [lgA, lgB, lgC, Act.put, lsA, lsB, lsC]
                                          refine wpAnyH_ready (rs := [17]) (by kernel_rfl) (by simp) ?_
                                          refine (AllReadyH.cons rfl (fun K hK => ?_) AllReadyH.nil)
                                          go_simp
                                          refine hK.out _ _ trivial (fun _ => ?_)
                                          clear hK K
                                          try simp only [lgA, lgB, lgC, Act.put, lsA, lsB, lsC]
                                          refine wpAnyH_done (by kernel_rfl) ?_ _
                                          exact ⟨by kernel_rfl, HSW⟩
                                      · intro t X HS
                                        simp only [puts, List.foldl_cons, List.foldl_nil, Act.put, List.setIfInBounds_toArray, List.set_cons_zero, List.set_cons_succ]
                                        go_wp2
                                        go_roundw
                                        case rel => exact ⟨j + 1, by go_num, by omega, by omega, HS⟩
                                        case measure => first | (simp [intOf]; done) | (simp [intOf]; omega)
                                · have ijb : ¬ (j : Int) < (b : Int) := by omega
                                  have djb : decide ((j : Int) < (b : Int)) = false := decide_eq_false ijb
                                  go_wp2
                                  go_roundw
                                  case rel => exact ⟨i, c + 1, by go_num, by go_num, by omega, by omega, by omega, HS⟩
                                  case measure => first | (simp [intOf]; done) | (simp [intOf]; omega)
                            · have d2 : decide ((2 : Int) ≤ (b : Int) - (i : Int)) = false := decide_eq_false h2
                              go_wp2
                              go_roundw
                              case rel => exact ⟨i, c + 1, by go_num, by go_num, by omega, by omega, by omega, HS⟩
                              case measure => first | (simp [intOf]; done) | (simp [intOf]; omega)
                          | false =>
                            obtain ⟨l, p1, u1, k1⟩ := HS.out
                            have P1 := hid p1
                            have U1 := hid u1
                            have K1 := hid k1
                            have hin : j < n := by omega
                            have hjn : k < n := by omega
                            have sj0 : (0 : Int) ≤ (j : Int) := by omega
                            have sj2 : (j : Int) < (n : Int) := by omega
                            have sk0 : (0 : Int) ≤ (k : Int) := by omega
                            have sk2 : (k : Int) < (n : Int) := by omega
                            clear p1 u1 k1 HS
                            go_upto_region 17 with fail
                            refine reg_any [79, 80, 81, 82, 83, 84, 85, 86, 87, 88, 89, 90, 91, 92, 93, 94] (fun X => Hid (Sz w0 X g n l0)) ?_ ?_
                            · have U2 := hid (U1.out.same (w' := X.drew) rfl)
                              have K2 := hid (K1.out.trans (Kp.drew _ X) (fun _ _ e => e))
                              obtain ⟨V, hV⟩ : ∃ U, X.drew = U := ⟨_, rfl⟩
                              rw [hV] at U2 K2
                              obtain ⟨xi, hxi⟩ : ∃ x, gd l j = x := ⟨_, rfl⟩
                              obtain ⟨xj, hxj⟩ : ∃ x, gd l k = x := ⟨_, rfl⟩
                              have ci : V.cell? ⟨g, j, none⟩ = some (.int .u32 xi) := by rw [← hxi]; exact U2.out.cell hin
                              have cj : V.cell? ⟨g, k, none⟩ = some (.int .u32 xj) := by rw [← hxj]; exact U2.out.cell hjn
                              have fi := U2.out.frz j
                              have fj := U2.out.frz k
                              have U3 := hid (U2.out.set hin xj)
                              have cj3 := U3.out.cell hjn
                              have fj3 := U3.out.frz k
                              have HSW := hid (Sz.swap P1.out U2.out K2.out hin hjn)
                              rw [hxi, hxj] at HSW
                              refine wp_region_held_drew (S := fun _ => True) (by kernel_rfl) trivial (fun _ => ?_)
                              rw [hV]
                              clear hV hxi hxj
                              refine' wpAnyH_take (i := 0) rfl (by kernel_rfl) (by kernel_rfl) (by kernel_rfl) (fun _ _ _ h => h) (Or.inl ⟨by kernel_rfl, ?_⟩) (by trivial) ?_
                              rotate_left
                              · (intro w hSw; go_simp; try (with_reducible rfl))
                              try simp only [lgA, lgB, lgC, Act.put, lsA, lsB, lsC]
                              refine' wpAnyH_take (i := 1) rfl (by kernel_rfl) (by kernel_rfl) (by kernel_rfl) (fun _ _ _ h => h) (Or.inl ⟨by kernel_rfl, ?_⟩) (by trivial) ?_
                              rotate_left
                              · (intro w hSw; go_simp; try (with_reducible rfl))
                              try simp only [lgA, lgB, lgC, Act.put, lsA, lsB, lsC]
                              refine' wpAnyH_take (i := 2) rfl (by kernel_rfl) (by kernel_rfl) (by kernel_rfl) (fun _ _ _ h => h) (Or.inl ⟨by kernel_rfl, ?_⟩) (by trivial) ?_
                              rotate_left
                              · (intro w hSw; go_simp; try (with_reducible rfl))
                              try simp only [lgA, lgB, lgC, Act.put, lsA, lsB, lsC]
                              refine' wpAnyH_take (i := 3) rfl (by kernel_rfl) (by kernel_rfl) (by kernel_rfl) (fun _ _ _ h => h) (Or.inl ⟨by kernel_rfl, ?_⟩) (by trivial) ?_
                              rotate_left
                              · (intro w hSw; go_simp; try (with_reducible rfl))
                              try simp only [lgA, lgB, lgC, Act.put, lsA, lsB, lsC]
                              refine' wpAnyH_take (i := 4) rfl (by kernel_rfl) (by kernel_rfl) (by kernel_rfl) (fun _ _ _ h => h) (Or.inl ⟨by kernel_rfl, ?_⟩) (by trivial) ?_
                              rotate_left
                              · (intro w hSw; go_simp; try (with_reducible rfl))
                              try simp only [lgA, lgB, lgC, Act.put, lsA, lsB, lsC]
                              refine' wpAnyH_take (i := 5) rfl (by kernel_rfl) (by kernel_rfl) (by kernel_rfl) (fun _ _ _ h => h) (Or.inl ⟨by kernel_rfl, ?_⟩) (by trivial) ?_
                              rotate_left
                              · (intro w hSw; go_simp; try (with_reducible rfl))
                              try simp only [lgA, lgB, lgC, Act.put, lsA, lsB, lsC]
                              refine' wpAnyH_take (i := 6) rfl (by kernel_rfl) (by kernel_rfl) (by kernel_rfl) (fun _ _ _ h => h) (Or.inl ⟨by kernel_rfl, ?_⟩) (by trivial) ?_
                              rotate_left
                              · (intro w hSw; go_simp; try (with_reducible rfl))
                              try simp only [lgA, lgB, lgC, Act.put, lsA, lsB, lsC]
                              refine' wpAnyH_take (i := 7) rfl (by kernel_rfl) (by kernel_rfl) (by kernel_rfl) (fun _ _ _ h => h) (Or.inl ⟨by kernel_rfl, ?_⟩) (by trivial) ?_
                              rotate_left
                              · (intro w hSw; go_simp; try (with_reducible rfl))
                              try simp only [lgA, lgB, lgC, Act.put, lsA, lsB, lsC]
                              refine' wpAnyH_take (i := 8) rfl (by kernel_rfl) (by kernel_rfl) (by kernel_rfl) (fun _ _ _ h => h) (Or.inl ⟨by kernel_rfl, ?_⟩) (by trivial) ?_
                              rotate_left
                              · (intro w hSw; go_simp; try (with_reducible rfl))
                              try simp only [lgA, lgB, lgC, Act.put, lsA, lsB, lsC]
                              refine' wpAnyH_take (i := 10) rfl (by kernel_rfl) (by kernel_rfl) (by kernel_rfl) (fun _ _ _ h => h) (Or.inl ⟨by kernel_rfl, ?_⟩) (by trivial) ?_
                              rotate_left
                              · (intro w hSw; go_simp; try (with_reducible rfl))
                              try simp only [lgA, lgB, lgC, Act.put, lsA, lsB, lsC]
                              refine' wpAnyH_take (i := 11) rfl (by kernel_rfl) (by kernel_rfl) (by kernel_rfl) (fun _ _ _ h => h) (Or.inl ⟨by kernel_rfl, ?_⟩) (by trivial) ?_
                              rotate_left
                              · (intro w hSw; go_simp; try (with_reducible rfl))
                              try simp only [lgA, lgB, lgC, Act.put, lsA, lsB, lsC]
                              refine' wpAnyH_take (i := 12) rfl (by kernel_rfl) (by kernel_rfl) (by kernel_rfl) (fun _ _ _ h => h) (Or.inl ⟨by kernel_rfl, ?_⟩) (by trivial) ?_
                              rotate_left
                              · (intro w hSw; go_simp; try (with_reducible rfl))
                              try simp only [lgA, lgB, lgC, Act.put, lsA, lsB, lsC]
                              refine wpAnyH_ready (rs := [9, 13]) (by kernel_rfl) (by simp) ?_
                              refine (AllReadyH.cons rfl (fun K hK => ?_) (AllReadyH.cons rfl (fun K hK => ?_) AllReadyH.nil))
                              · go_simp
                                refine hK.out _ _ trivial (fun _ => ?_)
                                clear hK K
                                try simp only [lgA, lgB, lgC, Act.put, lsA, lsB, lsC]
                                refine wpAnyH_ready (rs := [13]) (by kernel_rfl) (by simp) ?_
                                refine (AllReadyH.cons rfl (fun K hK => ?_) AllReadyH.nil)
                                go_simp
                                refine hK.out _ _ trivial (fun _ => ?_)
                                clear hK K
                                try simp only [lgA, lgB, lgC, Act.put, lsA, lsB, lsC]
                                refine' wpAnyH_take (i := 14) rfl (by kernel_rfl) (by kernel_rfl) (by kernel_rfl) (fun _ _ _ h => h) (Or.inl ⟨by kernel_rfl, ?_⟩) (by trivial) ?_
                                rotate_left
                                · (intro w hSw; go_simp; try (with_reducible rfl))
                                try simp only [lgA, lgB, lgC, Act.put, lsA, lsB, lsC]
                                refine wpAnyH_ready (rs := [15]) (by kernel_rfl) (by simp) ?_
                                refine (AllReadyH.cons rfl (fun K hK => ?_) AllReadyH.nil)
                                go_simp
                                refine hK.out _ _ trivial (fun _ => ?_)
                                clear hK K
                                try simp only [lgA, lgB, lgC, Act.put, lsA, lsB, lsC]
                                refine' wpAnyH_take (i := 16) rfl (by kernel_rfl) (by kernel_rfl) (by kernel_rfl) (fun _ _ _ h => h) (Or.inl ⟨by kernel_rfl, ?_⟩) (by trivial) ?_
                                rotate_left
                                · (intro w hSw; go_simp; try (with_reducible rfl))
                                try simp only [lgA, lgB, lgC, Act.put, lsA, lsB, lsC]
                                refine wpAnyH_ready (rs := [17]) (by kernel_rfl) (by simp) ?_
                                refine (AllReadyH.cons rfl (fun K hK => ?_) AllReadyH.nil)
                                go_simp
                                refine hK.out _ _ trivial (fun _ => ?_)
                                clear hK K
                                try simp only [lgA, lgB, lgC, Act.put, lsA, lsB, lsC]
                                refine wpAnyH_done (by kernel_rfl) ?_ _
                                exact ⟨by kernel_rfl, HSW⟩
                              · go_simp
                                refine hK.out _ _ trivial (fun _ => ?_)
                                clear hK K
                                try simp only [lgA, lgB, lgC, Act.put, lsA, lsB, lsC]
                                refine wpAnyH_ready (rs := [9]) (by kernel_rfl) (by simp) ?_
                                refine (AllReadyH.cons rfl (fun K hK => ?_) AllReadyH.nil)
                                go_simp
                                refine hK.out _ _ trivial (fun _ => ?_)
                                clear hK K
                                try simp only [lgA, lgB, lgC, Act.put, lsA, lsB, lsC]
                                refine' wpAnyH_take (i := 14) rfl (by kernel_rfl) (by kernel_rfl) (by kernel_rfl) (fun _ _ _ h => h) (Or.inl ⟨by kernel_rfl, ?_⟩) (by trivial) ?_
                                rotate_left
                                · (intro w hSw; go_simp; try (with_reducible rfl))
                                try simp only [lgA, lgB, lgC, Act.put, lsA, lsB, lsC]
                                refine wpAnyH_ready (rs := [15]) (by kernel_rfl) (by simp) ?_
                                refine (AllReadyH.cons rfl (fun K hK => ?_) AllReadyH.nil)
                                go_simp
                                refine hK.out _ _ trivial (fun _ => ?_)
                                clear hK K
                                try simp only [lgA, lgB, lgC, Act.put, lsA, lsB, lsC]
                                refine' wpAnyH_take (i := 16) rfl (by kernel_rfl) (by kernel_rfl) (by kernel_rfl) (fun _ _ _ h => h) (Or.inl ⟨by kernel_rfl, ?_⟩) (by trivial) ?_
                                rotate_left
                                · (intro w hSw; go_simp; try (with_reducible rfl))
                                try simp only [lgA, lgB, lgC, Act.put, lsA, lsB, lsC]
                                refine wpAnyH_ready (rs := [17]) (by kernel_rfl) (by simp) ?_
                                refine (AllReadyH.cons rfl (fun K hK => ?_) AllReadyH.nil)
                                go_simp
                                refine hK.out _ _ trivial (fun _ => ?_)
                                clear hK K
                                try simp only [lgA, lgB, lgC, Act.put, lsA, lsB, lsC]
                                refine wpAnyH_done (by kernel_rfl) ?_ _
                                exact ⟨by kernel_rfl, HSW⟩
                            · intro t X HS
                              simp only [puts, List.foldl_cons, List.foldl_nil, Act.put, List.setIfInBounds_toArray, List.set_cons_zero, List.set_cons_succ]
                              go_wp2
                              go_roundw
                              case rel => exact ⟨k, by go_num, by have := HKK.out; omega, HS⟩
                              case measure => have := HKK.out; first | (simp [intOf]; done) | (simp [intOf]; omega)
                      · have ijb : ¬ (1 : Int) ≤ (j : Int) := by omega
                        have djb : decide ((1 : Int) ≤ (j : Int)) = false := decide_eq_false ijb
                        have wbi : IntKind.i64.wrap ((b : Int) - (i : Int)) = (b : Int) - (i : Int) := by rw [IntKind.wrap_i64]; omega
                        by_cases h2 : 2 ≤ (b : Int) - (i : Int)
                        · have ri : (2 : Int) ≤ (b : Int) - (i : Int) := by omega
                          have wi2 : IntKind.i64.wrap ((i : Int) + 1) = ((i + 1 : Nat) : Int) := by rw [IntKind.wrap_i64]; omega
                          go_upto_region 20 with fail
                          go_loopw [10] (fun jv wr => ∃ j : Nat, jv = .int .i64 j ∧ 1 ≤ j ∧ j ≤ b ∧ Hid (Sz w0 wr g n l0)) (fun jv _ => b + 1 - (intOf jv).toNat)
                          case atStart => exact ⟨i + 1, rfl, by omega, by omega, HS⟩
                          case round =>
                            clear HS
                            obtain ⟨j, rfl, j0, j1, HS⟩ := hrel
                            by_cases hjb : j < b
                            · have ijb : (j : Int) < (b : Int) := by omega
                              obtain ⟨k, hk⟩ : ∃ k, j = k + 1 := ⟨j - 1, by omega⟩
                              have wk : IntKind.i64.wrap ((j : Int) - 1) = (k : Int) := by rw [IntKind.wrap_i64]; omega
                              have wj1 : IntKind.i64.wrap ((j : Int) + 1) = ((j + 1 : Nat) : Int) := by rw [IntKind.wrap_i64]; omega
                              have hjn' : j < n := by omega
                              have hkn' : k < n := by omega
                              have j0' : (0 : Int) ≤ (j : Int) := by omega
                              have j2 : (j : Int) < (n : Int) := by omega
                              have k0' : (0 : Int) ≤ (k : Int) := by omega
                              have k2 : (k : Int) < (n : Int) := by omega
                              have HKK := hid hk
                              clear hk
                              go_upto_region 22 with fail
                              refine reg_any2 [106, 107, 108, 109, 110, 111, 112, 113, 114, 115, 116] (fun t X => Hid (∃ β : Bool, t 116 = .bool β ∧ (β = true → True)) ∧ Hid (Sz w0 X g n l0)) ?_ ?_
                              · obtain ⟨l, p1, u1, k1⟩ := HS.out
                                obtain ⟨y, hy⟩ : ∃ y, gd l j = y := ⟨_, rfl⟩
                                have cy : wr.cell? ⟨g, j, none⟩ = some (.int .u32 y) := by rw [← hy]; exact u1.cell hjn'
                                clear hy
                                obtain ⟨z, hz⟩ : ∃ y, gd l k = y := ⟨_, rfl⟩
                                have cz : wr.cell? ⟨g, k, none⟩ = some (.int .u32 z) := by rw [← hz]; exact u1.cell hkn'
                                clear hz
                                clear p1 u1 k1 l
                                go_quiet (first | (go_at_call 56; with_reducible exact Calls.quiet_of_same (less_any _ _ _)))
                                have HQ := hid (HS.out.drewN nq)
                                exact ⟨by kernel_rfl, hid ⟨_, by rfl, fun _ => trivial⟩, HQ⟩
                              · rintro t X ⟨HB, HSX⟩
                                obtain ⟨β, eβ, hβ⟩ := HB.out
                                simp only [puts, List.foldl_cons, List.foldl_nil, Act.put, List.setIfInBounds_toArray, List.set_cons_zero, List.set_cons_succ]
                                rw [eβ]
                                clear eβ HB
                                clear HS
                                have HS := HSX
                                clear HSX hβ
                                cases β with
                                | true =>
                                  go_wp2
                                  go_roundw
                                  case rel => exact ⟨i, c + 1, by go_num, by go_num, by omega, by omega, by omega, HS⟩
                                  case measure => first | (simp [intOf]; done) | (simp [intOf]; omega)
                                | false =>
                                  obtain ⟨l, p1, u1, k1⟩ := HS.out
                                  have P1 := hid p1
                                  have U1 := hid u1
                                  have K1 := hid k1
                                  have hin : j < n := by omega
                                  have hjn : k < n := by omega
                                  have sj0 : (0 : Int) ≤ (j : Int) := by omega
                                  have sj2 : (j : Int) < (n : Int) := by omega
                                  have sk0 : (0 : Int) ≤ (k : Int) := by omega
                                  have sk2 : (k : Int) < (n : Int) := by omega
                                  clear p1 u1 k1 HS
                                  go_upto_region 23 with fail
                                  refine reg_any [117, 118, 119, 120, 121, 122, 123, 124, 125, 126, 127, 128, 129, 130, 131, 132] (fun X => Hid (Sz w0 X g n l0)) ?_ ?_
                                  · have U2 := hid (U1.out.same (w' := X.drew) rfl)
                                    have K2 := hid (K1.out.trans (Kp.drew _ X) (fun _ _ e => e))
                                    obtain ⟨V, hV⟩ : ∃ U, X.drew = U := ⟨_, rfl⟩
                                    rw [hV] at U2 K2
                                    obtain ⟨xi, hxi⟩ : ∃ x, gd l j = x := ⟨_, rfl⟩
                                    obtain ⟨xj, hxj⟩ : ∃ x, gd l k = x := ⟨_, rfl⟩
                                    have ci : V.cell? ⟨g, j, none⟩ = some (.int .u32 xi) := by rw [← hxi]; exact U2.out.cell hin
                                    have cj : V.cell? ⟨g, k, none⟩ = some (.int .u32 xj) := by rw [← hxj]; exact U2.out.cell hjn
                                    have fi := U2.out.frz j
                                    have fj := U2.out.frz k
                                    have U3 := hid (U2.out.set hin xj)
                                    have cj3 := U3.out.cell hjn
                                    have fj3 := U3.out.frz k
                                    have HSW := hid (Sz.swap P1.out U2.out K2.out hin hjn)
                                    rw [hxi, hxj] at HSW
                                    refine wp_region_held_drew (S := fun _ => True) (by kernel_rfl) trivial (fun _ => ?_)
                                    rw [hV]
                                    clear hV hxi hxj
                                    refine' wpAnyH_take (i := 0) rfl (by kernel_rfl) (by kernel_rfl) (by kernel_rfl) (fun _ _ _ h => h) (Or.inl ⟨by kernel_rfl, ?_⟩) (by trivial) ?_
                                    rotate_left
                                    · (intro w hSw; go_simp; try (with_reducible rfl))
                                    try simp only [lgA, lgB, lgC, Act.put, lsA, lsB, lsC]
                                    refine' wpAnyH_take (i := 1) rfl (by kernel_rfl) (by kernel_rfl) (by kernel_rfl) (fun _ _ _ h => h) (Or.inl ⟨by kernel_rfl, ?_⟩) (by trivial) ?_
                                    rotate_left
                                    · (intro w hSw; go_simp; try (with_reducible rfl))
                                    try simp only [lgA, lgB, lgC, Act.put, lsA, lsB, lsC]
                                    refine' wpAnyH_take (i := 2) rfl (by kernel_rfl) (by kernel_rfl) (by kernel_rfl) (fun _ _ _ h => h) (Or.inl ⟨by kernel_rfl, ?_⟩) (by trivial) ?_
                                    rotate_left
                                    · (intro w hSw; go_simp; try (with_reducible rfl))
                                    try simp only [lgA, lgB, lgC, Act.put, lsA, lsB, lsC]
                                    refine' wpAnyH_take (i := 3) rfl (by kernel_rfl) (by kernel_rfl) (by kernel_rfl) (fun _ _ _ h => h) (Or.inl ⟨by kernel_rfl, ?_⟩) (by trivial) ?_
                                    rotate_left
                                    · (intro w hSw; go_simp; try (with_reducible rfl))
                                    try simp only [lgA, lgB, lgC, Act.put, lsA, lsB, lsC]
                                    refine' wpAnyH_take (i := 4) rfl (by kernel_rfl) (by kernel_rfl) (by kernel_rfl) (fun _ _ _ h => h) (Or.inl ⟨by kernel_rfl, ?_⟩) (by trivial) ?_
                                    rotate_left
                                    · (intro w hSw; go_simp; try (with_reducible rfl))
                                    try simp only [lgA, lgB, lgC, Act.put, lsA, lsB, lsC]
                                    refine' wpAnyH_take (i := 5) rfl (by kernel_rfl) (by kernel_rfl) (by kernel_rfl) (fun _ _ _ h => h) (Or.inl ⟨by kernel_rfl, ?_⟩) (by trivial) ?_
                                    rotate_left
                                    · (intro w hSw; go_simp; try (with_reducible rfl))
                                    try simp only [lgA, lgB, lgC, Act.put, lsA, lsB, lsC]
                                    refine' wpAnyH_take (i := 6) rfl (by kernel_rfl) (by kernel_rfl) (by kernel_rfl) (fun _ _ _ h => h) (Or.inl ⟨by kernel_rfl, ?_⟩) (by trivial) ?_
                                    rotate_left
                                    · (intro w hSw; go_simp; try (with_reducible rfl))
                                    try simp only [lgA, lgB, lgC, Act.put, lsA, lsB, lsC]
                                    refine' wpAnyH_take (i := 7) rfl (by kernel_rfl) (by kernel_rfl) (by kernel_rfl) (fun _ _ _ h => h) (Or.inl ⟨by kernel_rfl, ?_⟩) (by trivial) ?_
                                    rotate_left
                                    · (intro w hSw; go_simp; try (with_reducible rfl))
                                    try simp only [lgA, lgB, lgC, Act.put, lsA, lsB, lsC]
                                    refine' wpAnyH_take (i := 8) rfl (by kernel_rfl) (by kernel_rfl) (by kernel_rfl) (fun _ _ _ h => h) (Or.inl ⟨by kernel_rfl, ?_⟩) (by trivial) ?_
                                    rotate_left
                                    · (intro w hSw; go_simp; try (with_reducible rfl))
                                    try simp only [lgA, lgB, lgC, Act.put, lsA, lsB, lsC]
                                    refine' wpAnyH_take (i := 10) rfl (by kernel_rfl) (by kernel_rfl) (by kernel_rfl) (fun _ _ _ h => h) (Or.inl ⟨by kernel_rfl, ?_⟩) (by trivial) ?_
                                    rotate_left
                                    · (intro w hSw; go_simp; try (with_reducible rfl))
                                    try simp only [lgA, lgB, lgC, Act.put, lsA, lsB, lsC]
                                    refine' wpAnyH_take (i := 11) rfl (by kernel_rfl) (by kernel_rfl) (by kernel_rfl) (fun _ _ _ h => h) (Or.inl ⟨by kernel_rfl, ?_⟩) (by trivial) ?_
                                    rotate_left
                                    · (intro w hSw; go_simp; try (with_reducible rfl))
                                    try simp only [lgA, lgB, lgC, Act.put, lsA, lsB, lsC]
                                    refine' wpAnyH_take (i := 12) rfl (by kernel_rfl) (by kernel_rfl) (by kernel_rfl) (fun _ _ _ h => h) (Or.inl ⟨by kernel_rfl, ?_⟩) (by trivial) ?_
                                    rotate_left
                                    · (intro w hSw; go_simp; try (with_reducible rfl))
                                    try simp only [lgA, lgB, lgC, Act.put, lsA, lsB, lsC]
                                    refine wpAnyH_ready (rs := [9, 13]) (by kernel_rfl) (by simp) ?_
                                    refine (AllReadyH.cons rfl (fun K hK => ?_) (AllReadyH.cons rfl (fun K hK => ?_) AllReadyH.nil))
                                    · go_simp
                                      refine hK.out _ _ trivial (fun _ => ?_)
                                      clear hK K
                                      try simp only [lgA, lgB, lgC, Act.put, lsA, lsB, lsC]
                                      refine wpAnyH_ready (rs := [13]) (by kernel_rfl) (by simp) ?_
                                      refine (AllReadyH.cons rfl (fun K hK => ?_) AllReadyH.nil)
                                      go_simp
                                      refine hK.out _ _ trivial (fun _ => ?_)
                                      clear hK K
                                      try simp only [lgA, lgB, lgC, Act.put, lsA, lsB, lsC]
                                      refine' wpAnyH_take (i := 14) rfl (by kernel_rfl) (by kernel_rfl) (by kernel_rfl) (fun _ _ _ h => h) (Or.inl ⟨by kernel_rfl, ?_⟩) (by trivial) ?_
                                      rotate_left
                                      · (intro w hSw; go_simp; try (with_reducible rfl))
                                      try simp only [lgA, lgB, lgC, Act.put, lsA, lsB, lsC]
                                      refine wpAnyH_ready (rs := [15]) (by kernel_rfl) (by simp) ?_
                                      refine (AllReadyH.cons rfl (fun K hK => ?_) AllReadyH.nil)
                                      go_simp
                                      refine hK.out _ _ trivial (fun _ => ?_)
                                      clear hK K
                                      try simp only [lgA, lgB, lgC, Act.put, lsA, lsB, lsC]
                                      refine' wpAnyH_take (i := 16) rfl (by kernel_rfl) (by kernel_rfl) (by kernel_rfl) (fun _ _ _ h => h) (Or.inl ⟨by kernel_rfl, ?_⟩) (by trivial) ?_
                                      rotate_left
                                      · (intro w hSw; go_simp; try (with_reducible rfl))
                                      try simp only [lgA, lgB, lgC, Act.put, lsA, lsB, lsC]
                                      refine wpAnyH_ready (rs := [17]) (by kernel_rfl) (by simp) ?_
                                      refine (AllReadyH.cons rfl (fun K hK => ?_) AllReadyH.nil)
                                      go_simp
                                      refine hK.out _ _ trivial (fun _ => ?_)
                                      clear hK K
                                      try simp only [lgA, lgB, lgC, Act.put, lsA, lsB, lsC]
                                      refine wpAnyH_done (by kernel_rfl) ?_ _
                                      exact ⟨by kernel_rfl, HSW⟩
                                    · go_simp
                                      refine hK.out _ _ trivial (fun _ => ?_)
                                      clear hK K
                                      try simp only [lgA, lgB, lgC, Act.put, lsA, lsB, lsC]
                                      refine wpAnyH_ready (rs := [9]) (by kernel_rfl) (by simp) ?_
                                      refine (AllReadyH.cons rfl (fun K hK => ?_) AllReadyH.nil)
                                      go_simp
                                      refine hK.out _ _ trivial (fun _ => ?_)
                                      clear hK K
                                      try simp only [lgA, lgB, lgC, Act.put, lsA, lsB, lsC]
                                      refine' wpAnyH_take (i := 14) rfl (by kernel_rfl) (by kernel_rfl) (by kernel_rfl) (fun _ _ _ h => h) (Or.inl ⟨by kernel_rfl, ?_⟩) (by trivial) ?_
                                      rotate_left
                                      · (intro w hSw; go_simp; try (with_reducible rfl))
                                      try simp only [lgA, lgB, lgC, Act.put, lsA, lsB, lsC]
                                      refine wpAnyH_ready (rs := [15]) (by kernel_rfl) (by simp) ?_
                                      refine (AllReadyH.cons rfl (fun K hK => ?_) AllReadyH.nil)
                                      go_simp
                                      refine hK.out _ _ trivial (fun _ => ?_)
                                      clear hK K
                                      try simp only [lgA, lgB, lgC, Act.put, lsA, lsB, lsC]
                                      refine' wpAnyH_take (i := 16) rfl (by kernel_rfl) (by kernel_rfl) (by kernel_rfl) (fun _ _ _ h => h) (Or.inl ⟨by kernel_rfl, ?_⟩) (by trivial) ?_
                                      rotate_left
                                      · (intro w hSw; go_simp; try (with_reducible rfl))
                                      try simp only [lgA, lgB, lgC, Act.put, lsA, lsB, lsC]
                                      refine wpAnyH_ready (rs := [17]) (by kernel_rfl) (by simp) ?_
                                      refine (AllReadyH.cons rfl (fun K hK => ?_) AllReadyH.nil)
                                      go_simp
                                      refine hK.out _ _ trivial (fun _ => ?_)
                                      clear hK K
                                      try simp only [lgA, lgB, lgC, Act.put, lsA, lsB, lsC]
                                      refine wpAnyH_done (by kernel_rfl) ?_ _
                                      exact ⟨by kernel_rfl, HSW⟩
                                  · intro t X HS
                                    simp only [puts, List.foldl_cons, List.foldl_nil, Act.put, List.setIfInBounds_toArray, List.set_cons_zero, List.set_cons_succ]
                                    go_wp2
                                    go_roundw
                                    case rel => exact ⟨j + 1, by go_num, by omega, by omega, HS⟩
                                    case measure => first | (simp [intOf]; done) | (simp [intOf]; omega)
                            · have ijb : ¬ (j : Int) < (b : Int) := by omega
                              have djb : decide ((j : Int) < (b : Int)) = false := decide_eq_false ijb
                              go_wp2
                              go_roundw
                              case rel => exact ⟨i, c + 1, by go_num, by go_num, by omega, by omega, by omega, HS⟩
                              case measure => first | (simp [intOf]; done) | (simp [intOf]; omega)
                        · have d2 : decide ((2 : Int) ≤ (b : Int) - (i : Int)) = false := decide_eq_false h2
                          go_wp2
                          go_roundw
                          case rel => exact ⟨i, c + 1, by go_num, by go_num, by omega, by omega, by omega, HS⟩
                          case measure => first | (simp [intOf]; done) | (simp [intOf]; omega)
                  · have d1 : decide ((2 : Int) ≤ (i : Int) - (a : Int)) = false := decide_eq_false h1
                    have wbi : IntKind.i64.wrap ((b : Int) - (i : Int)) = (b : Int) - (i : Int) := by rw [IntKind.wrap_i64]; omega
                    by_cases h2 : 2 ≤ (b : Int) - (i : Int)
                    · have ri : (2 : Int) ≤ (b : Int) - (i : Int) := by omega
                      have wi2 : IntKind.i64.wrap ((i : Int) + 1) = ((i + 1 : Nat) : Int) := by rw [IntKind.wrap_i64]; omega
                      go_upto_region 20 with fail
                      go_loopw [10] (fun jv wr => ∃ j : Nat, jv = .int .i64 j ∧ 1 ≤ j ∧ j ≤ b ∧ Hid (Sz w0 wr g n l0)) (fun jv _ => b + 1 - (intOf jv).toNat)
                      case atStart => exact ⟨i + 1, rfl, by omega, by omega, HS⟩
                      case round =>
                        clear HS
                        obtain ⟨j, rfl, j0, j1, HS⟩ := hrel
                        by_cases hjb : j < b
                        · have ijb : (j : Int) < (b : Int) := by omega
                          obtain ⟨k, hk⟩ : ∃ k, j = k + 1 := ⟨j - 1, by omega⟩
                          have wk : IntKind.i64.wrap ((j : Int) - 1) = (k : Int) := by rw [IntKind.wrap_i64]; omega
                          have wj1 : IntKind.i64.wrap ((j : Int) + 1) = ((j + 1 : Nat) : Int) := by rw [IntKind.wrap_i64]; omega
                          have hjn' : j < n := by omega
                          have hkn' : k < n := by omega
                          have j0' : (0 : Int) ≤ (j : Int) := by omega
                          have j2 : (j : Int) < (n : Int) := by omega
                          have k0' : (0 : Int) ≤ (k : Int) := by omega
                          have k2 : (k : Int) < (n : Int) := by omega
                          have HKK := hid hk
                          clear hk
                          go_upto_region 22 with fail
                          refine reg_any2 [106, 107, 108, 109, 110, 111, 112, 113, 114, 115, 116] (fun t X => Hid (∃ β : Bool, t 116 = .bool β ∧ (β = true → True)) ∧ Hid (Sz w0 X g n l0)) ?_ ?_
                          · obtain ⟨l, p1, u1, k1⟩ := HS.out
                            obtain ⟨y, hy⟩ : ∃ y, gd l j = y := ⟨_, rfl⟩
                            have cy : wr.cell? ⟨g, j, none⟩ = some (.int .u32 y) := by rw [← hy]; exact u1.cell hjn'
                            clear hy
                            obtain ⟨z, hz⟩ : ∃ y, gd l k = y := ⟨_, rfl⟩
                            have cz : wr.cell? ⟨g, k, none⟩ = some (.int .u32 z) := by rw [← hz]; exact u1.cell hkn'
                            clear hz
                            clear p1 u1 k1 l
                            go_quiet (first | (go_at_call 56; with_reducible exact Calls.quiet_of_same (less_any _ _ _)))
                            have HQ := hid (HS.out.drewN nq)
                            exact ⟨by kernel_rfl, hid ⟨_, by rfl, fun _ => trivial⟩, HQ⟩
                          · rintro t X ⟨HB, HSX⟩
                            obtain ⟨β, eβ, hβ⟩ := HB.out
                            simp only [puts, List.foldl_cons, List.foldl_nil, Act.put, List.setIfInBounds_toArray, List.set_cons_zero, List.set_cons_succ]
                            rw [eβ]
                            clear eβ HB
                            clear HS
                            have HS := HSX
                            clear HSX hβ
                            cases β with
                            | true =>
                              go_wp2
                              go_roundw
                              case rel => exact ⟨i, c + 1, by go_num, by go_num, by omega, by omega, by omega, HS⟩
                              case measure => first | (simp [intOf]; done) | (simp [intOf]; omega)
                            | false =>
                              obtain ⟨l, p1, u1, k1⟩ := HS.out
                              have P1 := hid p1
                              have U1 := hid u1
                              have K1 := hid k1
                              have hin : j < n := by omega
                              have hjn : k < n := by omega
                              have sj0 : (0 : Int) ≤ (j : Int) := by omega
                              have sj2 : (j : Int) < (n : Int) := by omega
                              have sk0 : (0 : Int) ≤ (k : Int) := by omega
                              have sk2 : (k : Int) < (n : Int) := by omega
                              clear p1 u1 k1 HS
                              go_upto_region 23 with fail
                              refine reg_any [117, 118, 119, 120, 121, 122, 123, 124, 125, 126, 127, 128, 129, 130, 131, 132] (fun X => Hid (Sz w0 X g n l0)) ?_ ?_
                              · have U2 := hid (U1.out.same (w' := X.drew) rfl)
                                have K2 := hid (K1.out.trans (Kp.drew _ X) (fun _ _ e => e))
                                obtain ⟨V, hV⟩ : ∃ U, X.drew = U := ⟨_, rfl⟩
                                rw [hV] at U2 K2
                                obtain ⟨xi, hxi⟩ : ∃ x, gd l j = x := ⟨_, rfl⟩
                                obtain ⟨xj, hxj⟩ : ∃ x, gd l k = x := ⟨_, rfl⟩
                                have ci : V.cell? ⟨g, j, none⟩ = some (.int .u32 xi) := by rw [← hxi]; exact U2.out.cell hin
                                have cj : V.cell? ⟨g, k, none⟩ = some (.int .u32 xj) := by rw [← hxj]; exact U2.out.cell hjn
                                have fi := U2.out.frz j
                                have fj := U2.out.frz k
                                have U3 := hid (U2.out.set hin xj)
                                have cj3 := U3.out.cell hjn
                                have fj3 := U3.out.frz k
                                have HSW := hid (Sz.swap P1.out U2.out K2.out hin hjn)
                                rw [hxi, hxj] at HSW
                                refine wp_region_held_drew (S := fun _ => True) (by kernel_rfl) trivial (fun _ => ?_)
                                rw [hV]
                                clear hV hxi hxj
                                refine' wpAnyH_take (i := 0) rfl (by kernel_rfl) (by kernel_rfl) (by kernel_rfl) (fun _ _ _ h => h) (Or.inl ⟨by kernel_rfl, ?_⟩) (by trivial) ?_
                                rotate_left
                                · (intro w hSw; go_simp; try (with_reducible rfl))
                                try simp only [lgA, lgB, lgC, Act.put, lsA, lsB, lsC]
                                refine' wpAnyH_take (i := 1) rfl (by kernel_rfl) (by kernel_rfl) (by kernel_rfl) (fun _ _ _ h => h) (Or.inl ⟨by kernel_rfl, ?_⟩) (by trivial) ?_
                                rotate_left
                                · (intro w hSw; go_simp; try (with_reducible rfl))
                                try simp only [lgA, lgB, lgC, Act.put, lsA, lsB, lsC]
                                refine' wpAnyH_take (i := 2) rfl (by kernel_rfl) (by kernel_rfl) (by kernel_rfl) (fun _ _ _ h => h) (Or.inl ⟨by kernel_rfl, ?_⟩) (by trivial) ?_
                                rotate_left
                                · (intro w hSw; go_simp; try (with_reducible rfl))
                                try simp only [lgA, lgB, lgC, Act.put, lsA, lsB, lsC]
                                refine' wpAnyH_take (i := 3) rfl (by kernel_rfl) (by kernel_rfl) (by kernel_rfl) (fun _ _ _ h => h) (Or.inl ⟨by kernel_rfl, ?_⟩) (by trivial) ?_
                                rotate_left
                                · (intro w hSw; go_simp; try (with_reducible rfl))
                                try simp only [lgA, lgB, lgC, Act.put, lsA, lsB, lsC]
                                refine' wpAnyH_take (i := 4) rfl (by kernel_rfl) (by kernel_rfl) (by kernel_rfl) (fun _ _ _ h => h) (Or.inl ⟨by kernel_rfl, ?_⟩) (by trivial) ?_
                                rotate_left
                                · (intro w hSw; go_simp; try (with_reducible rfl))
                                try simp only [lgA, lgB, lgC, Act.put, lsA, lsB, lsC]
                                refine' wpAnyH_take (i := 5) rfl (by kernel_rfl) (by kernel_rfl) (by kernel_rfl) (fun _ _ _ h => h) (Or.inl ⟨by kernel_rfl, ?_⟩) (by trivial) ?_
                                rotate_left
                                · (intro w hSw; go_simp; try (with_reducible rfl))
                                try simp only [lgA, lgB, lgC, Act.put, lsA, lsB, lsC]
                                refine' wpAnyH_take (i := 6) rfl (by kernel_rfl) (by kernel_rfl) (by kernel_rfl) (fun _ _ _ h => h) (Or.inl ⟨by kernel_rfl, ?_⟩) (by trivial) ?_
                                rotate_left
                                · (intro w hSw; go_simp; try (with_reducible rfl))
                                try simp only [lgA, lgB, lgC, Act.put, lsA, lsB, lsC]
                                refine' wpAnyH_take (i := 7) rfl (by kernel_rfl) (by kernel_rfl) (by kernel_rfl) (fun _ _ _ h => h) (Or.inl ⟨by kernel_rfl, ?_⟩) (by trivial) ?_
                                rotate_left
                                · (intro w hSw; go_simp; try (with_reducible rfl))
                                try simp only [lgA, lgB, lgC, Act.put, lsA, lsB, lsC]
                                refine' wpAnyH_take (i := 8) rfl (by kernel_rfl) (by kernel_rfl) (by kernel_rfl) (fun _ _ _ h => h) (Or.inl ⟨by kernel_rfl, ?_⟩) (by trivial) ?_
                                rotate_left
                                · (intro w hSw; go_simp; try (with_reducible rfl))
                                try simp only [lgA, lgB, lgC, Act.put, lsA, lsB, lsC]
                                refine' wpAnyH_take (i := 10) rfl (by kernel_rfl) (by kernel_rfl) (by kernel_rfl) (fun _ _ _ h => h) (Or.inl ⟨by kernel_rfl, ?_⟩) (by trivial) ?_
                                rotate_left
                                · (intro w hSw; go_simp; try (with_reducible rfl))
                                try simp only [lgA, lgB, lgC, Act.put, lsA, lsB, lsC]
                                refine' wpAnyH_take (i := 11) rfl (by kernel_rfl) (by kernel_rfl) (by kernel_rfl) (fun _ _ _ h => h) (Or.inl ⟨by kernel_rfl, ?_⟩) (by trivial) ?_
                                rotate_left
                                · (intro w hSw; go_simp; try (with_reducible rfl))
                                try simp only [lgA, lgB, lgC, Act.put, lsA, lsB, lsC]
                                refine' wpAnyH_take (i := 12) rfl (by kernel_rfl) (by kernel_rfl) (by kernel_rfl) (fun _ _ _ h => h) (Or.inl ⟨by kernel_rfl, ?_⟩) (by trivial) ?_
                                rotate_left
                                · (intro w hSw; go_simp; try (with_reducible rfl))
                                try simp only [lgA, lgB, lgC, Act.put, lsA, lsB, lsC]
                                refine wpAnyH_ready (rs := [9, 13]) (by kernel_rfl) (by simp) ?_
                                refine (AllReadyH.cons rfl (fun K hK => ?_) (AllReadyH.cons rfl (fun K hK => ?_) AllReadyH.nil))
                                · go_simp
                                  refine hK.out _ _ trivial (fun _ => ?_)
                                  clear hK K
                                  try simp only [lgA, lgB, lgC, Act.put, lsA, lsB, lsC]
                                  refine wpAnyH_ready (rs := [13]) (by kernel_rfl) (by simp) ?_
                                  refine (AllReadyH.cons rfl (fun K hK => ?_) AllReadyH.nil)
                                  go_simp
                                  refine hK.out _ _ trivial (fun _ => ?_)
                                  clear hK K
                                  try simp only [lgA, lgB, lgC, Act.put, lsA, lsB, lsC]
                                  refine' wpAnyH_take (i := 14) rfl (by kernel_rfl) (by kernel_rfl) (by kernel_rfl) (fun _ _ _ h => h) (Or.inl ⟨by kernel_rfl, ?_⟩) (by trivial) ?_
                                  rotate_left
                                  · (intro w hSw; go_simp; try (with_reducible rfl))
                                  try simp only [lgA, lgB, lgC, Act.put, lsA, lsB, lsC]
                                  refine wpAnyH_ready (rs := [15]) (by kernel_rfl) (by simp) ?_
                                  refine (AllReadyH.cons rfl (fun K hK => ?_) AllReadyH.nil)
                                  go_simp
                                  refine hK.out _ _ trivial (fun _ => ?_)
                                  clear hK K
                                  try simp only [lgA, lgB, lgC, Act.put, lsA, lsB, lsC]
                                  refine' wpAnyH_take (i := 16) rfl (by kernel_rfl) (by kernel_rfl) (by kernel_rfl) (fun _ _ _ h => h) (Or.inl ⟨by kernel_rfl, ?_⟩) (by trivial) ?_
                                  rotate_left
                                  · (intro w hSw; go_simp; try (with_reducible rfl))
                                  try simp only [lgA, lgB, lgC, Act.put, lsA, lsB, lsC]
                                  refine wpAnyH_ready (rs := [17]) (by kernel_rfl) (by simp) ?_
                                  refine (AllReadyH.cons rfl (fun K hK => ?_) AllReadyH.nil)
                                  go_simp
                                  refine hK.out _ _ trivial (fun _ => ?_)
                                  clear hK K
                                  try simp only [lgA, lgB, lgC, Act.put, lsA, lsB, lsC]
                                  refine wpAnyH_done (by kernel_rfl) ?_ _
                                  exact ⟨by kernel_rfl, HSW⟩
                                · go_simp
                                  refine hK.out _ _ trivial (fun _ => ?_)
                                  clear hK K
                                  try simp only [lgA, lgB, lgC, Act.put, lsA, lsB, lsC]
                                  refine wpAnyH_ready (rs := [9]) (by kernel_rfl) (by simp) ?_
                                  refine (AllReadyH.cons rfl (fun K hK => ?_) AllReadyH.nil)
                                  go_simp
                                  refine hK.out _ _ trivial (fun _ => ?_)
                                  clear hK K
                                  try simp only [lgA, lgB, lgC, Act.put, lsA, lsB, lsC]
                                  refine' wpAnyH_take (i := 14) rfl (by kernel_rfl) (by kernel_rfl) (by kernel_rfl) (fun _ _ _ h => h) (Or.inl ⟨by kernel_rfl, ?_⟩) (by trivial) ?_
                                  rotate_left
                                  · (intro w hSw; go_simp; try (with_reducible rfl))
                                  try simp only [lgA, lgB, lgC, Act.put, lsA, lsB, lsC]
                                  refine wpAnyH_ready (rs := [15]) (by kernel_rfl) (by simp) ?_
                                  refine (AllReadyH.cons rfl (fun K hK => ?_) AllReadyH.nil)
                                  go_simp
                                  refine hK.out _ _ trivial (fun _ => ?_)
                                  clear hK K
                                  try simp only [lgA, lgB, lgC, Act.put, lsA, lsB, lsC]
                                  refine' wpAnyH_take (i := 16) rfl (by kernel_rfl) (by kernel_rfl) (by kernel_rfl) (fun _ _ _ h => h) (Or.inl ⟨by kernel_rfl, ?_⟩) (by trivial) ?_
                                  rotate_left
                                  · (intro w hSw; go_simp; try (with_reducible rfl))
                                  try simp only [lgA, lgB, lgC, Act.put, lsA, lsB, lsC]
                                  refine wpAnyH_ready (rs := [17]) (by kernel_rfl) (by simp) ?_
                                  refine (AllReadyH.cons rfl (fun K hK => ?_) AllReadyH.nil)
                                  go_simp
                                  refine hK.out _ _ trivial (fun _ => ?_)
                                  clear hK K
                                  try simp only [lgA, lgB, lgC, Act.put, lsA, lsB, lsC]
                                  refine wpAnyH_done (by kernel_rfl) ?_ _
                                  exact ⟨by kernel_rfl, HSW⟩
                              · intro t X HS
                                simp only [puts, List.foldl_cons, List.foldl_nil, Act.put, List.setIfInBounds_toArray, List.set_cons_zero, List.set_cons_succ]
                                go_wp2
                                go_roundw
                                case rel => exact ⟨j + 1, by go_num, by omega, by omega, HS⟩
                                case measure => first | (simp [intOf]; done) | (simp [intOf]; omega)
                        · have ijb : ¬ (j : Int) < (b : Int) := by omega
                          have djb : decide ((j : Int) < (b : Int)) = false := decide_eq_false ijb
                          go_wp2
                          go_roundw
                          case rel => exact ⟨i, c + 1, by go_num, by go_num, by omega, by omega, by omega, HS⟩
                          case measure => first | (simp [intOf]; done) | (simp [intOf]; omega)
                    · have d2 : decide ((2 : Int) ≤ (b : Int) - (i : Int)) = false := decide_eq_false h2
                      go_wp2
                      go_roundw
                      case rel => exact ⟨i, c + 1, by go_num, by go_num, by omega, by omega, by omega, HS⟩
                      case measure => first | (simp [intOf]; done) | (simp [intOf]; omega)
    · have ic5 : ¬ (c : Int) < 5 := by omega
      have dc5 : decide ((c : Int) < 5) = false := decide_eq_false ic5
      go_wp2
      go_ret
      first | exact ⟨false, rfl, HS.out⟩ | (refine ⟨?_, HS.out⟩; first | rfl | (simp; done))
end Go.Proofs.Ytphhllppgelceaa.Sr
