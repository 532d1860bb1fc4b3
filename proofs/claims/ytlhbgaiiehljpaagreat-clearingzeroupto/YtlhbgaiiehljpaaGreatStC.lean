/-
  StC
-/
import Derived.Test.YtlhbgaiiehljpaaGreatGAa
import Derived.Test.YtlhbgaiiehljpaaGreatGAb
namespace Go.Proofs.YtlhbgaiiehljpaaGreat.Ss
open List renaming getElem_toArray → lgA, getElem_cons_succ → lgB, getElem_cons_zero → lgC, setIfInBounds_toArray → lsA, set_cons_zero → lsB, set_cons_succ → lsC
open Go.RowKit Go.Deep
set_option linter.unusedVariables false
set_option linter.unusedSimpArgs false
set_option maxHeartbeats 8000000
set_option maxRecDepth 100000
attribute [local go_sem ↓] Go.wp_at_zero Go.wp_at_succ
theorem gd_mem {l : List Int} {i : Nat} (h : i < l.length) : gd l i ∈ l := by
 unfold gd
 rw [List.getD_eq_getElem?_getD, List.getElem?_eq_getElem h]
 exact List.getElem_mem h
theorem gd_bd {l l0 : List Int} {N i : Nat} (hp : l.Perm l0) (hb : ∀ x ∈ l0, 0 ≤ x ∧ x < (N : Int)) (h : i < l.length) : 0 ≤ gd l i ∧ gd l i < (N : Int) := hb _ (hp.mem_iff.1 (gd_mem h))
theorem ins_st (g cap n N B : Nat) (r : Int → Int) (l0 : List Int) (a b : Nat) (w0 : World) (h : Uz w0 g n l0) (hab : a ≤ b) (hbn : b ≤ n) (hn : n ≤ 1152921504606846976) (hbd : ∀ x ∈ l0, 0 ≤ x ∧ x < (N : Int)) (hst : ∀ x y, a ≤ x → x < y → y < b → r (gd l0 x) = r (gd l0 y) → gd l0 x < gd l0 y) (hcq : Cq w0 g B N r) :
  Calls Tryz.prog 126 #[.slice (some ⟨g, 0, none⟩) n cap, .int .i64 a, .int .i64 b, .func (.func 110) #[] #[.pointer (some ⟨B, 0, none⟩)]] w0 fun e w' => e = .returned (.tuple #[]) ∧ Sp w0 w' g n (fun l => l.Perm l0 ∧ Seg (gd l0) (gd l) a b ∧ Srt r (gd l) a b) := by
 have HS0 := hid (h.sp (F := fun l => l.Perm l0 ∧ Seg (gd l0) (gd l) a (min (a + 1) b) ∧ Srt r (gd l) a (min (a + 1) b)) ⟨List.Perm.refl _, Seg.refl _ _ _, fun x y h1 h2 h3 => by omega⟩)
 have wa : IntKind.i64.wrap ((a : Int) + 1) = ((a + 1 : Nat) : Int) := by rw [IntKind.wrap_i64]; omega
 have HBD := hid hbd
 have HST := hid hst
 have CQ := hid hcq
 have HLN := hid h.len
 clear h hbd hst hcq
 go_enter Tryz.func126, Tryz.ntmps126
 go_upto_region 1 with fail
 go_loopw [8] (fun iv wr => ∃ i : Nat, iv = .int .i64 i ∧ a < i ∧ i ≤ b + 1 ∧ Hid (Sp w0 wr g n (fun l => l.Perm l0 ∧ Seg (gd l0) (gd l) a (min i b) ∧ Srt r (gd l) a (min i b)))) (fun iv _ => b + 1 - (intOf iv).toNat)
 case atStart => exact ⟨a + 1, rfl, by omega, by omega, HS0⟩
 case round =>
  obtain ⟨i, rfl, i0, i1, HS⟩ := hrel
  clear HS0
  by_cases hlt : i < b
  ·have il : (i : Int) < (b : Int) := by omega
   have wi : IntKind.i64.wrap ((i : Int) + 1) = ((i + 1 : Nat) : Int) := by rw [IntKind.wrap_i64]; omega
   have HSi := hid (HS.out.mono (G := fun l => l.Perm l0 ∧ Ins r (gd l0) (gd l) a i i) (fun l _ hl => by rw [Nat.min_eq_left (by omega)] at hl; exact ⟨hl.1, Ins.start hl.2.1 hl.2.2⟩))
   clear HS
   go_upto_region 4 with fail
   go_loopw [9] (fun jv wr => ∃ j : Nat, jv = .int .i64 j ∧ a ≤ j ∧ j ≤ i ∧ Hid (Sp w0 wr g n (fun l => l.Perm l0 ∧ Ins r (gd l0) (gd l) a i j))) (fun jv _ => (intOf jv).toNat)
   case atStart => exact ⟨i, rfl, by omega, by omega, HSi⟩
   case round =>
    clear HSi
    obtain ⟨j, rfl, j0, j1, HS2⟩ := hrel
    by_cases hj : a < j
    ·obtain ⟨k, hk⟩ : ∃ k, j = k + 1 := ⟨j - 1, by omega⟩
     obtain ⟨l, p1, u1, k1⟩ := HS2.out
     have U1 := hid u1
     have K1 := hid k1
     have hlen := u1.len
     have HP := hid (show (r (gd l k) < r (gd l j) → (fun l => l.Perm l0 ∧ Ins r (gd l0) (gd l) a i k) (sw l j k)) ∧ (¬ r (gd l k) < r (gd l j) → (fun l => l.Perm l0 ∧ Seg (gd l0) (gd l) a (min (i + 1) b) ∧ Srt r (gd l) a (min (i + 1) b)) l) from by
      subst hk
      refine ⟨fun e => ⟨(sw_perm (by omega) (by omega)).trans p1.1, p1.2.step hj j1 (by omega) e⟩, fun e => ?_⟩
      obtain ⟨s1, s2⟩ := p1.2.stop j0 j1 (fun x y h1 h2 h3 => HST.out x y h1 h2 (by omega)) (.inr ⟨k, rfl, e⟩)
      rw [show min (i + 1) b = i + 1 by omega]
      exact ⟨p1.1, s1, s2⟩)
     obtain ⟨y0, y1⟩ := gd_bd p1.1 HBD.out (show j < l.length by omega)
     obtain ⟨z0, z1⟩ := gd_bd p1.1 HBD.out (show k < l.length by omega)
     have C1 := hid (CQ.out wr k1 _ _ y0 y1 z0 z1)
     obtain ⟨y, hy⟩ : ∃ y, gd l j = y := ⟨_, rfl⟩
     have cy : wr.cell? ⟨g, j, none⟩ = some (.int .i64 y) := by rw [← hy]; exact u1.cell (by omega)
     obtain ⟨z, hz⟩ : ∃ y, gd l k = y := ⟨_, rfl⟩
     have cz : wr.cell? ⟨g, k, none⟩ = some (.int .i64 z) := by rw [← hz]; exact u1.cell (by omega)
     rw [hy, hz] at HP C1
     clear p1 u1 k1 hy hz y0 y1 z0 z1 hlen
     have hin : j < n := by omega
     have hjn : k < n := by omega
     have aj : (a : Int) < (j : Int) := by omega
     have j0' : (0 : Int) ≤ (j : Int) := by omega
     have j2 : (j : Int) < (n : Int) := by omega
     have k0' : (0 : Int) ≤ (k : Int) := by omega
     have k2 : (k : Int) < (n : Int) := by omega
     have wj : IntKind.i64.wrap ((j : Int) - 1) = (k : Int) := by rw [IntKind.wrap_i64]; omega
     have HKJ := hid hk
     clear hk
     go_upto_region 4 with fail
     go_quiet (first | (go_at_call 110; with_reducible exact Calls.quiet_of (C1.out _)))
     rw [cm_neg]
     have U1 := hid (U1.out.same (w' := wr.drewN nq) rfl)
     have K1 := hid (K1.out.trans (Kp.drewN _ wr nq) (fun _ _ e => e))
     obtain ⟨V, hV⟩ : ∃ U, wr.drewN nq = U := ⟨_, rfl⟩
     rw [hV] at U1 K1 ⊢
     clear hV
     cases hb : decide (r z < r y) with
     | true =>
      have P1 := hid (HP.out.1 (of_decide_eq_true hb))
      clear hb cy cz HP C1
      go_upto_region 6 with fail
      refine reg_any [37, 38, 39, 40, 41, 42, 43, 44, 45, 46, 47, 48, 49, 50, 51, 52] (fun X => Hid (Sp w0 X g n (fun l => l.Perm l0 ∧ Ins r (gd l0) (gd l) a i k))) ?_ ?_
      ·have U2 := hid (U1.out.same (w' := V.drew) rfl)
       have K2 := hid (K1.out.trans (Kp.drew _ V) (fun _ _ e => e))
       obtain ⟨V, hV⟩ : ∃ U, V.drew = U := ⟨_, rfl⟩
       rw [hV] at U2 K2
       obtain ⟨xi, hxi⟩ : ∃ x, gd l j = x := ⟨_, rfl⟩
       obtain ⟨xj, hxj⟩ : ∃ x, gd l k = x := ⟨_, rfl⟩
       have ci : V.cell? ⟨g, j, none⟩ = some (.int .i64 xi) := by rw [← hxi]; exact U2.out.cell hin
       have cj : V.cell? ⟨g, k, none⟩ = some (.int .i64 xj) := by rw [← hxj]; exact U2.out.cell hjn
       have fi := U2.out.frz j
       have fj := U2.out.frz k
       have U3 := hid (U2.out.set hin xj)
       have cj3 := U3.out.cell hjn
       have fj3 := U3.out.frz k
       have HSW := hid (Sp.swap (F := fun l => l.Perm l0 ∧ Ins r (gd l0) (gd l) a i k) P1.out U2.out K2.out hin hjn)
       rw [hxi, hxj] at HSW
       refine wp_region_held_drew (S := fun _ => True) (by kernel_rfl) trivial (fun _ => ?_)
       rw [hV]
       clear hV hxi hxj
       refine' tkz 0 rfl ?_ ?_
       rotate_left
       ·(intro w hSw; go_simp; try (with_reducible rfl))
       try simp only [lgA, lgB, lgC, Act.put, lsA, lsB, lsC]
       refine' tkz 1 rfl ?_ ?_
       rotate_left
       ·(intro w hSw; go_simp; try (with_reducible rfl))
       try simp only [lgA, lgB, lgC, Act.put, lsA, lsB, lsC]
       refine' tkz 2 rfl ?_ ?_
       rotate_left
       ·(intro w hSw; go_simp; try (with_reducible rfl))
       try simp only [lgA, lgB, lgC, Act.put, lsA, lsB, lsC]
       refine' tkz 3 rfl ?_ ?_
       rotate_left
       ·(intro w hSw; go_simp; try (with_reducible rfl))
       try simp only [lgA, lgB, lgC, Act.put, lsA, lsB, lsC]
       refine' tkz 4 rfl ?_ ?_
       rotate_left
       ·(intro w hSw; go_simp; try (with_reducible rfl))
       try simp only [lgA, lgB, lgC, Act.put, lsA, lsB, lsC]
       refine' tkz 5 rfl ?_ ?_
       rotate_left
       ·(intro w hSw; go_simp; try (with_reducible rfl))
       try simp only [lgA, lgB, lgC, Act.put, lsA, lsB, lsC]
       refine' tkz 6 rfl ?_ ?_
       rotate_left
       ·(intro w hSw; go_simp; try (with_reducible rfl))
       try simp only [lgA, lgB, lgC, Act.put, lsA, lsB, lsC]
       refine' tkz 7 rfl ?_ ?_
       rotate_left
       ·(intro w hSw; go_simp; try (with_reducible rfl))
       try simp only [lgA, lgB, lgC, Act.put, lsA, lsB, lsC]
       refine' tkz 8 rfl ?_ ?_
       rotate_left
       ·(intro w hSw; go_simp; try (with_reducible rfl))
       try simp only [lgA, lgB, lgC, Act.put, lsA, lsB, lsC]
       refine' tkz 10 rfl ?_ ?_
       rotate_left
       ·(intro w hSw; go_simp; try (with_reducible rfl))
       try simp only [lgA, lgB, lgC, Act.put, lsA, lsB, lsC]
       refine' tkz 11 rfl ?_ ?_
       rotate_left
       ·(intro w hSw; go_simp; try (with_reducible rfl))
       try simp only [lgA, lgB, lgC, Act.put, lsA, lsB, lsC]
       refine' tkz 12 rfl ?_ ?_
       rotate_left
       ·(intro w hSw; go_simp; try (with_reducible rfl))
       try simp only [lgA, lgB, lgC, Act.put, lsA, lsB, lsC]
       refine wpAnyH_ready (rs := [9, 13]) (by kernel_rfl) (by simp) ?_
       refine (AllReadyH.cons rfl (fun K hK => ?_) (AllReadyH.cons rfl (fun K hK => ?_) AllReadyH.nil))
       ·go_simp
        refine hK.out _ _ trivial (fun _ => ?_)
        clear hK K
        try simp only [lgA, lgB, lgC, Act.put, lsA, lsB, lsC]
        refine wpAnyH_ready (rs := [13]) (by kernel_rfl) (by simp) ?_
        refine (AllReadyH.cons rfl (fun K hK => ?_) AllReadyH.nil)
        go_simp
        refine hK.out _ _ trivial (fun _ => ?_)
        clear hK K
        try simp only [lgA, lgB, lgC, Act.put, lsA, lsB, lsC]
        refine' tkz 14 rfl ?_ ?_
        rotate_left
        ·(intro w hSw; go_simp; try (with_reducible rfl))
        try simp only [lgA, lgB, lgC, Act.put, lsA, lsB, lsC]
        refine wpAnyH_ready (rs := [15]) (by kernel_rfl) (by simp) ?_
        refine (AllReadyH.cons rfl (fun K hK => ?_) AllReadyH.nil)
        go_simp
        refine hK.out _ _ trivial (fun _ => ?_)
        clear hK K
        try simp only [lgA, lgB, lgC, Act.put, lsA, lsB, lsC]
        refine' tkz 16 rfl ?_ ?_
        rotate_left
        ·(intro w hSw; go_simp; try (with_reducible rfl))
        try simp only [lgA, lgB, lgC, Act.put, lsA, lsB, lsC]
        refine wpAnyH_ready (rs := [17]) (by kernel_rfl) (by simp) ?_
        refine (AllReadyH.cons rfl (fun K hK => ?_) AllReadyH.nil)
        go_simp
        refine hK.out _ _ trivial (fun _ => ?_)
        clear hK K
        try simp only [lgA, lgB, lgC, Act.put, lsA, lsB, lsC]
        refine wpAnyH_done (by kernel_rfl) ?_ _
        exact ⟨by kernel_rfl, HSW⟩
       ·go_simp
        refine hK.out _ _ trivial (fun _ => ?_)
        clear hK K
        try simp only [lgA, lgB, lgC, Act.put, lsA, lsB, lsC]
        refine wpAnyH_ready (rs := [9]) (by kernel_rfl) (by simp) ?_
        refine (AllReadyH.cons rfl (fun K hK => ?_) AllReadyH.nil)
        go_simp
        refine hK.out _ _ trivial (fun _ => ?_)
        clear hK K
        try simp only [lgA, lgB, lgC, Act.put, lsA, lsB, lsC]
        refine' tkz 14 rfl ?_ ?_
        rotate_left
        ·(intro w hSw; go_simp; try (with_reducible rfl))
        try simp only [lgA, lgB, lgC, Act.put, lsA, lsB, lsC]
        refine wpAnyH_ready (rs := [15]) (by kernel_rfl) (by simp) ?_
        refine (AllReadyH.cons rfl (fun K hK => ?_) AllReadyH.nil)
        go_simp
        refine hK.out _ _ trivial (fun _ => ?_)
        clear hK K
        try simp only [lgA, lgB, lgC, Act.put, lsA, lsB, lsC]
        refine' tkz 16 rfl ?_ ?_
        rotate_left
        ·(intro w hSw; go_simp; try (with_reducible rfl))
        try simp only [lgA, lgB, lgC, Act.put, lsA, lsB, lsC]
        refine wpAnyH_ready (rs := [17]) (by kernel_rfl) (by simp) ?_
        refine (AllReadyH.cons rfl (fun K hK => ?_) AllReadyH.nil)
        go_simp
        refine hK.out _ _ trivial (fun _ => ?_)
        clear hK K
        try simp only [lgA, lgB, lgC, Act.put, lsA, lsB, lsC]
        refine wpAnyH_done (by kernel_rfl) ?_ _
        exact ⟨by kernel_rfl, HSW⟩
      ·intro t X HS
       simp only [puts, List.foldl_cons, List.foldl_nil, Act.put, List.setIfInBounds_toArray, List.set_cons_zero, List.set_cons_succ]
       go_wp2
       go_roundw
       case rel => exact ⟨k, by go_num, by have := HKJ.out; omega, by have := HKJ.out; omega, HS⟩
       case measure => have := HKJ.out; simp [intOf]; omega
     | false =>
      have HQ := hid (show Sp w0 V g n (fun l => l.Perm l0 ∧ Seg (gd l0) (gd l) a (min (i + 1) b) ∧ Srt r (gd l) a (min (i + 1) b)) from ⟨l, HP.out.2 (of_decide_eq_false hb), U1.out, K1.out⟩)
      clear hb cy cz HP C1
      go_wp2
      go_roundw
      case rel => exact ⟨i + 1, by go_num, by omega, by omega, HQ⟩
      case measure => simp [intOf]; omega
    ·have aj : ¬ (a : Int) < (j : Int) := by omega
     have dj : decide ((a : Int) < (j : Int)) = false := decide_eq_false aj
     go_upto_region 4 with fail
     go_quiet (fail)
     have HQ := hid ((HS2.out.drewN nq).mono (G := fun l => l.Perm l0 ∧ Seg (gd l0) (gd l) a (min (i + 1) b) ∧ Srt r (gd l) a (min (i + 1) b)) (fun l _ hl => by
      obtain ⟨s1, s2⟩ := hl.2.stop j0 j1 (fun x y h1 h2 h3 => HST.out x y h1 h2 (by omega)) (.inl (by omega))
      rw [show min (i + 1) b = i + 1 by omega]
      exact ⟨hl.1, s1, s2⟩))
     obtain ⟨V, hV⟩ : ∃ U, wr.drewN nq = U := ⟨_, rfl⟩
     rw [hV] at HQ ⊢
     clear hV
     go_wp2
     go_roundw
     case rel => exact ⟨i + 1, by go_num, by omega, by omega, HQ⟩
     case measure => simp [intOf]; omega
  ·have HE := hid (HS.out.mono (G := fun l => l.Perm l0 ∧ Seg (gd l0) (gd l) a b ∧ Srt r (gd l) a b) (fun l _ hl => by rw [Nat.min_eq_right (by omega)] at hl; exact hl))
   go_wp2
   go_end0
   exact ⟨rfl, HE.out⟩
end Go.Proofs.YtlhbgaiiehljpaaGreat.Ss
