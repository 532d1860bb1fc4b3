/-
  StD
-/
import Derived.Test.YtlhbgaiiehljpaaGreatGAa
import Derived.Test.YtlhbgaiiehljpaaGreatStC
namespace Go.Proofs.YtlhbgaiiehljpaaGreat.Ss
open List renaming getElem_toArray → lgA, getElem_cons_succ → lgB, getElem_cons_zero → lgC, setIfInBounds_toArray → lsA, set_cons_zero → lsB, set_cons_succ → lsC
open Go.RowKit Go.Deep
set_option linter.unusedVariables false
set_option linter.unusedSimpArgs false
set_option maxHeartbeats 8000000
set_option maxRecDepth 100000
attribute [local go_sem ↓] Go.wp_at_zero Go.wp_at_succ
theorem swr_any (g cap n B : Nat) (l0 : List Int) (a b k : Nat) (w0 : World) (h : Uz w0 g n l0) (hab : a + k ≤ b) (hbn : b + k ≤ n) (hn : n ≤ 1152921504606846976) :
  Calls Tryz.prog 129 #[.slice (some ⟨g, 0, none⟩) n cap, .int .i64 a, .int .i64 b, .int .i64 k, .func (.func 110) #[] #[.pointer (some ⟨B, 0, none⟩)]] w0 fun e w' => e = .returned (.tuple #[]) ∧ Sp w0 w' g n (fun l => l = swr l0 a b k) := by
 have HS0 := hid (h.sp (F := fun l => l = swr l0 a b 0) rfl)
 clear h
 go_enter Tryz.func129, Tryz.ntmps129
 go_upto_region 1 with fail
 go_loopw [10] (fun iv wr => ∃ i : Nat, iv = .int .i64 i ∧ i ≤ k ∧ Hid (Sp w0 wr g n (fun l => l = swr l0 a b i))) (fun iv _ => k - (intOf iv).toNat)
 case atStart => exact ⟨0, rfl, by omega, HS0⟩
 case round =>
  obtain ⟨i, rfl, i1, HS⟩ := hrel
  clear HS0
  by_cases hlt : i < k
  ·have il : (i : Int) < (k : Int) := by omega
   have wi : IntKind.i64.wrap ((i : Int) + 1) = ((i + 1 : Nat) : Int) := by rw [IntKind.wrap_i64]; omega
   obtain ⟨l, p1, u1, k1⟩ := HS.out
   have U1 := hid u1
   have K1 := hid k1
   obtain ⟨c, hc⟩ : ∃ c, a + i = c := ⟨_, rfl⟩
   obtain ⟨d, hd⟩ : ∃ c, b + i = c := ⟨_, rfl⟩
   have P1 := hid (show (fun l => l = swr l0 a b (i + 1)) (sw l c d) from by
    show sw l c d = swr l0 a b (i + 1)
    rw [p1, ← hc, ← hd]
    rfl)
   have w1 : IntKind.i64.wrap ((a : Int) + (i : Int)) = (c : Int) := by rw [IntKind.wrap_i64]; omega
   have w2 : IntKind.i64.wrap ((b : Int) + (i : Int)) = (d : Int) := by rw [IntKind.wrap_i64]; omega
   have hin : c < n := by omega
   have hjn : d < n := by omega
   have c0' : (0 : Int) ≤ (c : Int) := by omega
   have c2 : (c : Int) < (n : Int) := by omega
   have d0' : (0 : Int) ≤ (d : Int) := by omega
   have d2 : (d : Int) < (n : Int) := by omega
   clear p1 u1 k1
   have HI := hid hlt
   clear hc hd
   go_upto_region 3 with fail
   refine reg_any [16, 17, 18, 19, 20, 21, 22, 23, 24, 25, 26, 27, 28, 29, 30, 31, 32, 33, 34, 35, 36, 37] (fun X => Hid (Sp w0 X g n (fun l => l = swr l0 a b (i + 1)))) ?_ ?_
   ·have U2 := hid (U1.out.same (w' := wr.drew) rfl)
    have K2 := hid (K1.out.trans (Kp.drew _ wr) (fun _ _ e => e))
    obtain ⟨V, hV⟩ : ∃ U, wr.drew = U := ⟨_, rfl⟩
    rw [hV] at U2 K2
    obtain ⟨xi, hxi⟩ : ∃ x, gd l c = x := ⟨_, rfl⟩
    obtain ⟨xj, hxj⟩ : ∃ x, gd l d = x := ⟨_, rfl⟩
    have ci : V.cell? ⟨g, c, none⟩ = some (.int .i64 xi) := by rw [← hxi]; exact U2.out.cell hin
    have cj : V.cell? ⟨g, d, none⟩ = some (.int .i64 xj) := by rw [← hxj]; exact U2.out.cell hjn
    have fi := U2.out.frz c
    have fj := U2.out.frz d
    have U3 := hid (U2.out.set hin xj)
    have cj3 := U3.out.cell hjn
    have fj3 := U3.out.frz d
    have HSW := hid (Sp.swap (F := fun l => l = swr l0 a b (i + 1)) P1.out U2.out K2.out hin hjn)
    rw [hxi, hxj] at HSW
    refine wp_region_held_drew (S := fun _ => True) (by kernel_rfl) trivial (fun _ => ?_)
    rw [hV]
    clear hV hxi hxj
    refine' tkz 0 rfl ?_ ?_
    rotate_left
    ·(intro w hSw; go_simp; try (with_reducible rfl))
    try simp only [lgA, lgB, lgC, Act.put, lsA, lsB, lsC]
    refine' tkz 1 rfl ?_ ?_
    rotate_left
    ·(intro w hSw; go_simp; try (with_reducible rfl))
    try simp only [lgA, lgB, lgC, Act.put, lsA, lsB, lsC]
    refine' tkz 2 rfl ?_ ?_
    rotate_left
    ·(intro w hSw; go_simp; try (with_reducible rfl))
    try simp only [lgA, lgB, lgC, Act.put, lsA, lsB, lsC]
    refine' tkz 3 rfl ?_ ?_
    rotate_left
    ·(intro w hSw; go_simp; try (with_reducible rfl))
    try simp only [lgA, lgB, lgC, Act.put, lsA, lsB, lsC]
    refine' tkz 4 rfl ?_ ?_
    rotate_left
    ·(intro w hSw; go_simp; try (with_reducible rfl))
    try simp only [lgA, lgB, lgC, Act.put, lsA, lsB, lsC]
    refine' tkz 5 rfl ?_ ?_
    rotate_left
    ·(intro w hSw; go_simp; try (with_reducible rfl))
    try simp only [lgA, lgB, lgC, Act.put, lsA, lsB, lsC]
    refine' tkz 6 rfl ?_ ?_
    rotate_left
    ·(intro w hSw; go_simp; try (with_reducible rfl))
    try simp only [lgA, lgB, lgC, Act.put, lsA, lsB, lsC]
    refine' tkz 7 rfl ?_ ?_
    rotate_left
    ·(intro w hSw; go_simp; try (with_reducible rfl))
    try simp only [lgA, lgB, lgC, Act.put, lsA, lsB, lsC]
    refine' tkz 8 rfl ?_ ?_
    rotate_left
    ·(intro w hSw; go_simp; try (with_reducible rfl))
    try simp only [lgA, lgB, lgC, Act.put, lsA, lsB, lsC]
    refine' tkz 9 rfl ?_ ?_
    rotate_left
    ·(intro w hSw; go_simp; try (with_reducible rfl))
    try simp only [lgA, lgB, lgC, Act.put, lsA, lsB, lsC]
    refine' tkz 10 rfl ?_ ?_
    rotate_left
    ·(intro w hSw; go_simp; try (with_reducible rfl))
    try simp only [lgA, lgB, lgC, Act.put, lsA, lsB, lsC]
    refine' tkz 11 rfl ?_ ?_
    rotate_left
    ·(intro w hSw; go_simp; try (with_reducible rfl))
    try simp only [lgA, lgB, lgC, Act.put, lsA, lsB, lsC]
    refine' tkz 12 rfl ?_ ?_
    rotate_left
    ·(intro w hSw; go_simp; try (with_reducible rfl))
    try simp only [lgA, lgB, lgC, Act.put, lsA, lsB, lsC]
    refine' tkz 14 rfl ?_ ?_
    rotate_left
    ·(intro w hSw; go_simp; try (with_reducible rfl))
    try simp only [lgA, lgB, lgC, Act.put, lsA, lsB, lsC]
    refine' tkz 15 rfl ?_ ?_
    rotate_left
    ·(intro w hSw; go_simp; try (with_reducible rfl))
    try simp only [lgA, lgB, lgC, Act.put, lsA, lsB, lsC]
    refine' tkz 16 rfl ?_ ?_
    rotate_left
    ·(intro w hSw; go_simp; try (with_reducible rfl))
    try simp only [lgA, lgB, lgC, Act.put, lsA, lsB, lsC]
    refine' tkz 17 rfl ?_ ?_
    rotate_left
    ·(intro w hSw; go_simp; try (with_reducible rfl))
    try simp only [lgA, lgB, lgC, Act.put, lsA, lsB, lsC]
    refine' tkz 18 rfl ?_ ?_
    rotate_left
    ·(intro w hSw; go_simp; try (with_reducible rfl))
    try simp only [lgA, lgB, lgC, Act.put, lsA, lsB, lsC]
    refine wpAnyH_ready (rs := [13, 19]) (by kernel_rfl) (by simp) ?_
    refine (AllReadyH.cons rfl (fun K hK => ?_) (AllReadyH.cons rfl (fun K hK => ?_) AllReadyH.nil))
    ·go_simp
     refine hK.out _ _ trivial (fun _ => ?_)
     clear hK K
     try simp only [lgA, lgB, lgC, Act.put, lsA, lsB, lsC]
     refine wpAnyH_ready (rs := [19]) (by kernel_rfl) (by simp) ?_
     refine (AllReadyH.cons rfl (fun K hK => ?_) AllReadyH.nil)
     go_simp
     refine hK.out _ _ trivial (fun _ => ?_)
     clear hK K
     try simp only [lgA, lgB, lgC, Act.put, lsA, lsB, lsC]
     refine' tkz 20 rfl ?_ ?_
     rotate_left
     ·(intro w hSw; go_simp; try (with_reducible rfl))
     try simp only [lgA, lgB, lgC, Act.put, lsA, lsB, lsC]
     refine wpAnyH_ready (rs := [21]) (by kernel_rfl) (by simp) ?_
     refine (AllReadyH.cons rfl (fun K hK => ?_) AllReadyH.nil)
     go_simp
     refine hK.out _ _ trivial (fun _ => ?_)
     clear hK K
     try simp only [lgA, lgB, lgC, Act.put, lsA, lsB, lsC]
     refine' tkz 22 rfl ?_ ?_
     rotate_left
     ·(intro w hSw; go_simp; try (with_reducible rfl))
     try simp only [lgA, lgB, lgC, Act.put, lsA, lsB, lsC]
     refine wpAnyH_ready (rs := [23]) (by kernel_rfl) (by simp) ?_
     refine (AllReadyH.cons rfl (fun K hK => ?_) AllReadyH.nil)
     go_simp
     refine hK.out _ _ trivial (fun _ => ?_)
     clear hK K
     try simp only [lgA, lgB, lgC, Act.put, lsA, lsB, lsC]
     refine wpAnyH_done (by kernel_rfl) ?_ _
     exact ⟨by kernel_rfl, HSW⟩
    ·go_simp
     refine hK.out _ _ trivial (fun _ => ?_)
     clear hK K
     try simp only [lgA, lgB, lgC, Act.put, lsA, lsB, lsC]
     refine wpAnyH_ready (rs := [13]) (by kernel_rfl) (by simp) ?_
     refine (AllReadyH.cons rfl (fun K hK => ?_) AllReadyH.nil)
     go_simp
     refine hK.out _ _ trivial (fun _ => ?_)
     clear hK K
     try simp only [lgA, lgB, lgC, Act.put, lsA, lsB, lsC]
     refine' tkz 20 rfl ?_ ?_
     rotate_left
     ·(intro w hSw; go_simp; try (with_reducible rfl))
     try simp only [lgA, lgB, lgC, Act.put, lsA, lsB, lsC]
     refine wpAnyH_ready (rs := [21]) (by kernel_rfl) (by simp) ?_
     refine (AllReadyH.cons rfl (fun K hK => ?_) AllReadyH.nil)
     go_simp
     refine hK.out _ _ trivial (fun _ => ?_)
     clear hK K
     try simp only [lgA, lgB, lgC, Act.put, lsA, lsB, lsC]
     refine' tkz 22 rfl ?_ ?_
     rotate_left
     ·(intro w hSw; go_simp; try (with_reducible rfl))
     try simp only [lgA, lgB, lgC, Act.put, lsA, lsB, lsC]
     refine wpAnyH_ready (rs := [23]) (by kernel_rfl) (by simp) ?_
     refine (AllReadyH.cons rfl (fun K hK => ?_) AllReadyH.nil)
     go_simp
     refine hK.out _ _ trivial (fun _ => ?_)
     clear hK K
     try simp only [lgA, lgB, lgC, Act.put, lsA, lsB, lsC]
     refine wpAnyH_done (by kernel_rfl) ?_ _
     exact ⟨by kernel_rfl, HSW⟩
   ·intro t X HS
    simp only [puts, List.foldl_cons, List.foldl_nil, Act.put, List.setIfInBounds_toArray, List.set_cons_zero, List.set_cons_succ]
    go_wp2
    go_roundw
    case rel => exact ⟨i + 1, by go_num, HI.out, HS⟩
    case measure => have := HI.out; simp [intOf]; omega
  ·obtain rfl : i = k := by omega
   go_wp2
   go_end0
   exact ⟨rfl, HS.out⟩
theorem rot_any (g cap n B : Nat) (l0 : List Int) (a m b : Nat) (w0 : World) (h : Uz w0 g n l0) (am : a < m) (mb : m < b) (hbn : b ≤ n) (hn : n ≤ 1152921504606846976) :
  Calls Tryz.prog 128 #[.slice (some ⟨g, 0, none⟩) n cap, .int .i64 a, .int .i64 m, .int .i64 b, .func (.func 110) #[] #[.pointer (some ⟨B, 0, none⟩)]] w0 fun e w' => e = .returned (.tuple #[]) ∧ Sp w0 w' g n (fun l => l.Perm l0 ∧ gd l = rot (gd l0) a m b) := by
 have w1 : IntKind.i64.wrap ((m : Int) - (a : Int)) = ((m - a : Nat) : Int) := by rw [IntKind.wrap_i64]; omega
 have w2 : IntKind.i64.wrap ((b : Int) - (m : Int)) = ((b - m : Nat) : Int) := by rw [IntKind.wrap_i64]; omega
 have HS0 := hid (h.sp (F := fun l => l.Perm l0 ∧ rot (gd l) (m - (m - a)) m (m + (b - m)) = rot (gd l0) a m b) ⟨List.Perm.refl _, by rw [show m - (m - a) = a by omega, show m + (b - m) = b by omega]⟩)
 clear h
 go_enter Tryz.func128, Tryz.ntmps128
 go_upto_region 2 with fail
 go_loopw [10, 11] (fun iv jv wr => ∃ i j : Nat, iv = .int .i64 i ∧ jv = .int .i64 j ∧ 0 < i ∧ 0 < j ∧ i ≤ m - a ∧ j ≤ b - m ∧ Hid (Sp w0 wr g n (fun l => l.Perm l0 ∧ rot (gd l) (m - i) m (m + j) = rot (gd l0) a m b))) (fun iv jv _ => (intOf iv).toNat + (intOf jv).toNat)
 case atStart => exact ⟨m - a, b - m, rfl, rfl, by omega, by omega, by omega, by omega, HS0⟩
 case round =>
  obtain ⟨i, j, rfl, rfl, i0, j0, i1, j1, HS⟩ := hrel
  clear HS0 w1 w2
  obtain ⟨l, p1, u1, k1⟩ := HS.out
  have hlen := u1.len
  have P1 := hid p1
  have K1 := hid k1
  have u : IntKind.i64.wrap ((m : Int) - (i : Int)) = ((m - i : Nat) : Int) := by rw [IntKind.wrap_i64]; omega
  by_cases hij : i = j
  ·subst hij
   have eij : ((i : Int) != (i : Int)) = false := by simp
   have CS := hid (swr_any g cap n B l (m - i) m i wr u1 (by omega) (by omega) hn)
   clear p1 u1 k1 HS
   go_wp2_with (go_at_call 129; with_reducible refine CS.out.mono ?_; rintro e w4 ⟨rfl, h4⟩; have H4 := hid h4; clear h4)
   go_end0
   refine ⟨rfl, Sp.trans K1.out (H4.out.mono (fun l' _ e => ?_))⟩
   rw [e]
   refine ⟨(swr_perm (by omega) (by omega)).trans P1.out.1, ?_⟩
   rw [rot_e (by omega) (by omega)]
   exact P1.out.2
  ·by_cases hgt : j < i
   ·have e1 : ((i : Int) != (j : Int)) = true := by simp; omega
    have e2 : decide ((j : Int) < (i : Int)) = true := decide_eq_true (by omega)
    have u2 : IntKind.i64.wrap ((i : Int) - (j : Int)) = ((i - j : Nat) : Int) := by rw [IntKind.wrap_i64]; omega
    have CS := hid (swr_any g cap n B l (m - i) m j wr u1 (by omega) (by omega) hn)
    have HH := hid (And.intro hgt (And.intro i0 (And.intro j0 (And.intro i1 (And.intro j1 hlen)))))
    clear p1 u1 k1 HS
    go_wp2_with (go_at_call 129; with_reducible refine CS.out.mono ?_; rintro e w4 ⟨rfl, h4⟩; have H4 := hid h4; clear h4)
    go_roundw
    case rel =>
     obtain ⟨hgt, i0, j0, i1, j1, hlen⟩ := HH.out
     refine ⟨i - j, j, by go_num, rfl, by omega, j0, by omega, j1, hid (Sp.trans K1.out (H4.out.mono (fun l' _ e => ?_)))⟩
     rw [e]
     refine ⟨(swr_perm (by omega) (by omega)).trans P1.out.1, ?_⟩
     rw [rot_l (by omega) hgt j0 (by omega)]
     exact P1.out.2
    case measure => have := HH.out; simp [intOf]; omega
   ·have e1 : ((i : Int) != (j : Int)) = true := by simp; omega
    have e2 : decide ((j : Int) < (i : Int)) = false := decide_eq_false (by omega)
    have u2 : IntKind.i64.wrap ((j : Int) - (i : Int)) = ((j - i : Nat) : Int) := by rw [IntKind.wrap_i64]; omega
    have u3 : IntKind.i64.wrap ((m : Int) + (j : Int)) = ((m + j : Nat) : Int) := by rw [IntKind.wrap_i64]; omega
    have u4 : IntKind.i64.wrap (((m + j : Nat) : Int) - (i : Int)) = ((m + j - i : Nat) : Int) := by rw [IntKind.wrap_i64]; omega
    have u5 : IntKind.i64.wrap ((m : Int) + (j : Int) - (i : Int)) = ((m + j - i : Nat) : Int) := by rw [IntKind.wrap_i64]; omega
    obtain ⟨mj, hmj⟩ : ∃ x, m + j - i = x := ⟨_, rfl⟩
    have CS := hid (swr_any g cap n B l (m - i) (m + j - i) i wr u1 (by omega) (by omega) hn)
    rw [hmj] at u4 u5 CS
    have HMJ := hid hmj
    clear hmj
    have HH := hid (show i < j ∧ 0 < i ∧ 0 < j ∧ i ≤ m - a ∧ j ≤ b - m ∧ l.length = n from ⟨by omega, i0, j0, i1, j1, hlen⟩)
    clear p1 u1 k1 HS
    go_wp2_with (go_at_call 129; with_reducible refine CS.out.mono ?_; rintro e w4 ⟨rfl, h4⟩; have H4 := hid h4; clear h4)
    go_roundw
    case rel =>
     obtain ⟨hgt, i0, j0, i1, j1, hlen⟩ := HH.out
     refine ⟨i, j - i, rfl, by go_num, i0, by omega, i1, by omega, hid (Sp.trans K1.out (H4.out.mono (fun l' _ e => ?_)))⟩
     rw [e, ← HMJ.out]
     refine ⟨(swr_perm (by omega) (by omega)).trans P1.out.1, ?_⟩
     rw [rot_r (by omega) hgt i0 (by omega)]
     exact P1.out.2
    case measure => have := HH.out; simp [intOf]; omega
end Go.Proofs.YtlhbgaiiehljpaaGreat.Ss
