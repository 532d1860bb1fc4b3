/-
  StE
-/
import Derived.Test.YtlhbgaiiehljpaaGreatGAa
import Derived.Test.YtlhbgaiiehljpaaGreatStD
namespace Go.Proofs.YtlhbgaiiehljpaaGreat.Ss
open List renaming getElem_toArray → lgA, getElem_cons_succ → lgB, getElem_cons_zero → lgC, setIfInBounds_toArray → lsA, set_cons_zero → lsB, set_cons_succ → lsC
open Go.RowKit Go.Deep
set_option linter.unusedVariables false
set_option linter.unusedSimpArgs false
set_option maxHeartbeats 8000000
set_option maxRecDepth 100000
attribute [local go_sem ↓] Go.wp_at_zero Go.wp_at_succ
theorem sh1_step {f : Nat → Int} {l : List Int} {a k : Nat} (h : gd l = sh1 f a k) (ha : a ≤ k) (hk : k + 1 < l.length) : gd (sw l k (k + 1)) = sh1 f a (k + 1) := by
 funext x
 rw [gd_sw (by omega) hk, h]
 unfold sh1
 by_cases c1 : x = k + 1
 ·rw [if_pos c1, if_neg (by omega), if_pos rfl, if_neg (by omega), if_pos c1]
 ·rw [if_neg c1]
  by_cases c2 : x = k
  ·rw [if_pos c2, if_neg (by omega), if_neg (by omega), if_pos (by omega), c2]
  ·rw [if_neg c2]
   by_cases c3 : a ≤ x ∧ x < k
   ·rw [if_pos c3, if_pos (by omega)]
   ·rw [if_neg c3, if_neg c2, if_neg (by omega), if_neg c1]
theorem sh1_start (f : Nat → Int) (a : Nat) : f = sh1 f a a := by
 funext x
 unfold sh1
 rw [if_neg (by omega)]
 by_cases c : x = a
 ·rw [if_pos c, c]
 ·rw [if_neg c]
theorem sh2_step {f : Nat → Int} {l : List Int} {m k : Nat} (h : gd l = sh2 f m (k + 1)) (hm : k + 1 ≤ m) (hk : m < l.length) : gd (sw l (k + 1) k) = sh2 f m k := by
 funext x
 rw [gd_sw (by omega) (by omega), h]
 unfold sh2
 by_cases c1 : x = k
 ·rw [if_pos c1, if_neg (by omega), if_pos rfl, if_neg (by omega), if_pos c1]
 ·rw [if_neg c1]
  by_cases c2 : x = k + 1
  ·rw [if_pos c2, if_neg (by omega), if_neg (by omega), if_pos (by omega), c2]
   rfl
  ·rw [if_neg c2]
   by_cases c3 : k + 1 < x ∧ x ≤ m
   ·rw [if_pos c3, if_pos (by omega)]
   ·rw [if_neg c3, if_neg c2, if_neg (by omega), if_neg c1]
theorem sh2_start (f : Nat → Int) (m : Nat) : f = sh2 f m m := by
 funext x
 unfold sh2
 rw [if_neg (by omega)]
 by_cases c : x = m
 ·rw [if_pos c, c]
 ·rw [if_neg c]
theorem sym_l (g cap n N B : Nat) (r : Int → Int) (l0 : List Int) (a m b : Nat) (w0 : World) (h : Uz w0 g n l0) (am : a < m) (mb : m < b) (hbn : b ≤ n) (hn : n ≤ 1152921504606846976) (hbd : ∀ x ∈ l0, 0 ≤ x ∧ x < (N : Int)) (hl : Srt r (gd l0) a m) (hr : Srt r (gd l0) m b) (hst : Stb r (gd l0) a m b) (hcq : Cq w0 g B N r) (h1 : m = a + 1) :
  Calls Tryz.prog 127 #[.slice (some ⟨g, 0, none⟩) n cap, .int .i64 a, .int .i64 m, .int .i64 b, .func (.func 110) #[] #[.pointer (some ⟨B, 0, none⟩)]] w0 fun e w' => e = .returned (.tuple #[]) ∧ Sp w0 w' g n (fun l => l.Perm l0 ∧ Seg (gd l0) (gd l) a b ∧ Srt r (gd l) a b) := by
 have w1 : IntKind.i64.wrap ((m : Int) - (a : Int)) = 1 := by rw [IntKind.wrap_i64]; omega
 have HLN := hid h.len
 have HU := hid h
 have HBD := hid hbd
 have HL := hid hl
 have HR := hid hr
 have HT := hid hst
 have CQ := hid hcq
 clear h hbd hl hr hst hcq
 have h1' := hid h1
 clear h1
 go_enter Tryz.func127, Tryz.ntmps127
 go_upto_region 3 with fail
 go_loopw [10, 11] (fun iv jv wr => ∃ i j : Nat, iv = .int .i64 i ∧ jv = .int .i64 j ∧ m ≤ i ∧ i ≤ j ∧ j ≤ b ∧ Hid (Uz wr g n l0) ∧ Hid (Kp (fun b => b = g) w0 wr) ∧ Hid (∀ x, m ≤ x → x < i → lt r (gd l0 x) (gd l0 a)) ∧ Hid (∀ x, j ≤ x → x < b → lt r (gd l0 a) (gd l0 x))) (fun iv jv _ => (intOf jv - intOf iv).toNat)
 case atStart => exact ⟨m, b, rfl, rfl, by omega, by omega, by omega, HU, Kp.refl _ _, fun x h1 h2 => by omega, fun x h1 h2 => by omega⟩
 case round =>
  obtain ⟨i, j, rfl, rfl, i0, ij, j1, U1, K1, HA, HB⟩ := hrel
  by_cases hlt : i < j
  ·have il : (i : Int) < (j : Int) := by omega
   obtain ⟨h, hh⟩ : ∃ h, (i + j) / 2 = h := ⟨_, rfl⟩
   have hI : ((i : Int) + (j : Int)) / 2 = (h : Int) := by omega
   have h0 : i ≤ h := by omega
   have h1 : h < j := by omega
   have hbd9 : ∀ x, x < n → 0 ≤ gd l0 x ∧ gd l0 x < (N : Int) := fun x hx => HBD.out _ (gd_mem (by rw [HLN.out]; exact hx))
   have HP := hid (show (r (gd l0 a) < r (gd l0 h) → ∀ x, m ≤ x → x < h + 1 → lt r (gd l0 x) (gd l0 a)) ∧ (¬ r (gd l0 a) < r (gd l0 h) → ∀ x, h ≤ x → x < b → lt r (gd l0 a) (gd l0 x)) from by
    refine ⟨fun e x m1 m2 => ?_, fun e x m1 m2 => ?_⟩
    ·by_cases c : x = h
     ·rw [c]; exact .inl e
     ·exact lt_trans (HR.out x h m1 (by omega) (by omega)) (.inl e)
    ·have k0 : lt r (gd l0 a) (gd l0 h) := no_lt e (HT.out a h (Nat.le_refl _) am (by omega) (by omega))
     by_cases c : x = h
     ·rw [c]; exact k0
     ·exact lt_trans k0 (HR.out h x (by omega) (by omega) m2))
   have HHJ := hid (show m ≤ h ∧ i ≤ h ∧ h < j ∧ j ≤ b from ⟨by omega, by omega, by omega, by omega⟩)
   have wh : IntKind.i64.wrap ((h : Int) + 1) = ((h + 1 : Nat) : Int) := by rw [IntKind.wrap_i64]; omega
   obtain ⟨PA, hPA⟩ : ∃ P : Prop, (∀ x, m ≤ x → x < h + 1 → lt r (gd l0 x) (gd l0 a)) = P := ⟨_, rfl⟩
   obtain ⟨PB, hPB⟩ : ∃ P : Prop, (∀ x, h ≤ x → x < b → lt r (gd l0 a) (gd l0 x)) = P := ⟨_, rfl⟩
   rw [hPA, hPB] at HP
   obtain ⟨x0, x1⟩ := hbd9 h (by omega)
   obtain ⟨y0, y1⟩ := hbd9 a (by omega)
   have C1 := hid (CQ.out wr K1.out _ _ x0 x1 y0 y1)
   obtain ⟨vx, hvx⟩ : ∃ v, gd l0 h = v := ⟨_, rfl⟩
   have cx : wr.cell? ⟨g, h, none⟩ = some (.int .i64 vx) := by rw [← hvx]; exact U1.out.cell (by omega)
   obtain ⟨vy, hvy⟩ : ∃ v, gd l0 a = v := ⟨_, rfl⟩
   have cy : wr.cell? ⟨g, a, none⟩ = some (.int .i64 vy) := by rw [← hvy]; exact U1.out.cell (by omega)
   rw [hvx, hvy] at C1 HP
   have a0' : (0 : Int) ≤ (a : Int) := by omega
   have a2 : (a : Int) < (n : Int) := by omega
   have h0' : (0 : Int) ≤ (h : Int) := by omega
   have h2 : (h : Int) < (n : Int) := by omega
   clear x0 x1 y0 y1 hvx hvy hbd9
   go_upto_region 5 with fail
   try rw [hI]
   go_quiet (first | (go_at_call 110; with_reducible exact Calls.quiet_of (C1.out _)))
   rw [cm_neg]
   have U1 := hid (U1.out.same (w' := wr.drewN nq) rfl)
   have K1 := hid (K1.out.trans (Kp.drewN _ wr nq) (fun _ _ e => e))
   obtain ⟨V, hV⟩ : ∃ U, wr.drewN nq = U := ⟨_, rfl⟩
   rw [hV] at U1 K1 ⊢
   clear hV
   cases hb : decide (r vy < r vx) with
   | true =>
    have HQ := hid (show ∀ x, m ≤ x → x < h + 1 → lt r (gd l0 x) (gd l0 a) from by rw [hPA]; exact HP.out.1 (of_decide_eq_true hb))
    clear hb cx cy HP C1 hPA hPB hI hh
    go_wp2
    go_roundw
    case rel => exact ⟨h + 1, j, by go_num, rfl, by have := HHJ.out; omega, by have := HHJ.out; omega, j1, U1, K1, HQ, HB⟩
    case measure => have := HHJ.out; simp [intOf]; omega
   | false =>
    have HQ := hid (show ∀ x, h ≤ x → x < b → lt r (gd l0 a) (gd l0 x) from by rw [hPB]; exact HP.out.2 (of_decide_eq_false hb))
    clear hb cx cy HP C1 hPA hPB hI hh
    go_wp2
    go_roundw
    case rel => exact ⟨i, h, rfl, by go_num, i0, by have := HHJ.out; omega, by have := HHJ.out; omega, U1, K1, HA, HQ⟩
    case measure => have := HHJ.out; simp [intOf]; omega
  ·have eij : j = i := by omega
   subst eij
   have HRES := hid (sh1_srt (r := r) (f := gd l0) (a := a) (b := b) (i := j) (by have := h1'.out; omega) j1 (by rw [← h1'.out]; exact HR.out) (fun x q1 q2 => HA.out x (by have := h1'.out; omega) q2) HB.out)
   have wj : IntKind.i64.wrap ((j : Int) - 1) = ((j - 1 : Nat) : Int) := by rw [IntKind.wrap_i64]; omega
   have HS0 := hid (show Sp w0 wr g n (fun l => l.Perm l0 ∧ gd l = sh1 (gd l0) a a) from ⟨l0, ⟨List.Perm.refl _, sh1_start _ _⟩, U1.out, K1.out⟩)
   have HJ := hid (show a < j ∧ j ≤ b from ⟨by omega, j1⟩)
   clear HA HB U1 K1
   obtain ⟨V1, hV1⟩ : ∃ V, V = wr := ⟨_, rfl⟩
   subst hV1
   go_upto_region 9 with fail
   go_loopw [13] (fun kv wr => ∃ k : Nat, kv = .int .i64 k ∧ a ≤ k ∧ k ≤ j - 1 ∧ Hid (Sp w0 wr g n (fun l => l.Perm l0 ∧ gd l = sh1 (gd l0) a k))) (fun kv _ => j - (intOf kv).toNat)
   case atStart => exact ⟨a, rfl, Nat.le_refl _, by omega, HS0⟩
   case round =>
    obtain ⟨k, rfl, k0, k1, HS⟩ := hrel
    clear HS0
    by_cases hk : k < j - 1
    ·have ikj : (k : Int) < ((j - 1 : Nat) : Int) := by omega
     obtain ⟨l, p1, u1, q1⟩ := HS.out
     have U1 := hid u1
     have K1 := hid q1
     obtain ⟨c, hc⟩ : ∃ c, k + 1 = c := ⟨_, rfl⟩
     have hlen := u1.len
     have P1 := hid (show (fun l => l.Perm l0 ∧ gd l = sh1 (gd l0) a (k + 1)) (sw l k c) from by
      rw [← hc]
      exact ⟨(sw_perm (by omega) (by omega)).trans p1.1, sh1_step p1.2 k0 (by omega)⟩)
     have wk : IntKind.i64.wrap ((k : Int) + 1) = (c : Int) := by rw [IntKind.wrap_i64]; omega
     have hin : k < n := by omega
     have hjn : c < n := by omega
     have k0' : (0 : Int) ≤ (k : Int) := by omega
     have k2 : (k : Int) < (n : Int) := by omega
     have c0' : (0 : Int) ≤ (c : Int) := by omega
     have c2 : (c : Int) < (n : Int) := by omega
     have HKK := hid hk
     have HCC := hid hc
     clear p1 u1 q1 hc hlen
     go_upto_region 11 with fail
     refine reg_any [61, 62, 63, 64, 65, 66, 67, 68, 69, 70, 71, 72, 73, 74, 75, 76] (fun X => Hid (Sp w0 X g n (fun l => l.Perm l0 ∧ gd l = sh1 (gd l0) a (k + 1)))) ?_ ?_
     ·have U2 := hid (U1.out.same (w' := wr.drew) rfl)
      have K2 := hid (K1.out.trans (Kp.drew _ wr) (fun _ _ e => e))
      obtain ⟨V, hV⟩ : ∃ U, wr.drew = U := ⟨_, rfl⟩
      rw [hV] at U2 K2
      obtain ⟨xi, hxi⟩ : ∃ x, gd l k = x := ⟨_, rfl⟩
      obtain ⟨xj, hxj⟩ : ∃ x, gd l c = x := ⟨_, rfl⟩
      have ci : V.cell? ⟨g, k, none⟩ = some (.int .i64 xi) := by rw [← hxi]; exact U2.out.cell hin
      have cj : V.cell? ⟨g, c, none⟩ = some (.int .i64 xj) := by rw [← hxj]; exact U2.out.cell hjn
      have fi := U2.out.frz k
      have fj := U2.out.frz c
      have U3 := hid (U2.out.set hin xj)
      have cj3 := U3.out.cell hjn
      have fj3 := U3.out.frz c
      have HSW := hid (Sp.swap (F := fun l => l.Perm l0 ∧ gd l = sh1 (gd l0) a (k + 1)) P1.out U2.out K2.out hin hjn)
      rw [hxi, hxj] at HSW
      refine wp_region_held_drew (S := fun _ => True) (by kernel_rfl) trivial (fun _ => ?_)
      rw [hV]
      clear hV hxi hxj
      refine' tkz 0 rfl ?_ ?_
      rotate_left
      ·(intro w hSw; go_simp; try (with_reducible rfl))
      try simp only [lgA, lgB, lgC, Act.put, lsA, lsB, lsC]
      refine' tkz 1 rfl ?_ ?_
      rotate_left
      ·(intro w hSw; go_simp; try (with_reducible rfl))
      try simp only [lgA, lgB, lgC, Act.put, lsA, lsB, lsC]
      refine' tkz 2 rfl ?_ ?_
      rotate_left
      ·(intro w hSw; go_simp; try (with_reducible rfl))
      try simp only [lgA, lgB, lgC, Act.put, lsA, lsB, lsC]
      refine' tkz 3 rfl ?_ ?_
      rotate_left
      ·(intro w hSw; go_simp; try (with_reducible rfl))
      try simp only [lgA, lgB, lgC, Act.put, lsA, lsB, lsC]
      refine' tkz 4 rfl ?_ ?_
      rotate_left
      ·(intro w hSw; go_simp; try (with_reducible rfl))
      try simp only [lgA, lgB, lgC, Act.put, lsA, lsB, lsC]
      refine' tkz 5 rfl ?_ ?_
      rotate_left
      ·(intro w hSw; go_simp; try (with_reducible rfl))
      try simp only [lgA, lgB, lgC, Act.put, lsA, lsB, lsC]
      refine' tkz 6 rfl ?_ ?_
      rotate_left
      ·(intro w hSw; go_simp; try (with_reducible rfl))
      try simp only [lgA, lgB, lgC, Act.put, lsA, lsB, lsC]
      refine' tkz 7 rfl ?_ ?_
      rotate_left
      ·(intro w hSw; go_simp; try (with_reducible rfl))
      try simp only [lgA, lgB, lgC, Act.put, lsA, lsB, lsC]
      refine' tkz 8 rfl ?_ ?_
      rotate_left
      ·(intro w hSw; go_simp; try (with_reducible rfl))
      try simp only [lgA, lgB, lgC, Act.put, lsA, lsB, lsC]
      refine' tkz 10 rfl ?_ ?_
      rotate_left
      ·(intro w hSw; go_simp; try (with_reducible rfl))
      try simp only [lgA, lgB, lgC, Act.put, lsA, lsB, lsC]
      refine' tkz 11 rfl ?_ ?_
      rotate_left
      ·(intro w hSw; go_simp; try (with_reducible rfl))
      try simp only [lgA, lgB, lgC, Act.put, lsA, lsB, lsC]
      refine' tkz 12 rfl ?_ ?_
      rotate_left
      ·(intro w hSw; go_simp; try (with_reducible rfl))
      try simp only [lgA, lgB, lgC, Act.put, lsA, lsB, lsC]
      refine wpAnyH_ready (rs := [9, 13]) (by kernel_rfl) (by simp) ?_
      refine (AllReadyH.cons rfl (fun K hK => ?_) (AllReadyH.cons rfl (fun K hK => ?_) AllReadyH.nil))
      ·go_simp
       refine hK.out _ _ trivial (fun _ => ?_)
       clear hK K
       try simp only [lgA, lgB, lgC, Act.put, lsA, lsB, lsC]
       refine wpAnyH_ready (rs := [13]) (by kernel_rfl) (by simp) ?_
       refine (AllReadyH.cons rfl (fun K hK => ?_) AllReadyH.nil)
       go_simp
       refine hK.out _ _ trivial (fun _ => ?_)
       clear hK K
       try simp only [lgA, lgB, lgC, Act.put, lsA, lsB, lsC]
       refine' tkz 14 rfl ?_ ?_
       rotate_left
       ·(intro w hSw; go_simp; try (with_reducible rfl))
       try simp only [lgA, lgB, lgC, Act.put, lsA, lsB, lsC]
       refine wpAnyH_ready (rs := [15]) (by kernel_rfl) (by simp) ?_
       refine (AllReadyH.cons rfl (fun K hK => ?_) AllReadyH.nil)
       go_simp
       refine hK.out _ _ trivial (fun _ => ?_)
       clear hK K
       try simp only [lgA, lgB, lgC, Act.put, lsA, lsB, lsC]
       refine' tkz 16 rfl ?_ ?_
       rotate_left
       ·(intro w hSw; go_simp; try (with_reducible rfl))
       try simp only [lgA, lgB, lgC, Act.put, lsA, lsB, lsC]
       refine wpAnyH_ready (rs := [17]) (by kernel_rfl) (by simp) ?_
       refine (AllReadyH.cons rfl (fun K hK => ?_) AllReadyH.nil)
       go_simp
       refine hK.out _ _ trivial (fun _ => ?_)
       clear hK K
       try simp only [lgA, lgB, lgC, Act.put, lsA, lsB, lsC]
       refine wpAnyH_done (by kernel_rfl) ?_ _
       exact ⟨by kernel_rfl, HSW⟩
      ·go_simp
       refine hK.out _ _ trivial (fun _ => ?_)
       clear hK K
       try simp only [lgA, lgB, lgC, Act.put, lsA, lsB, lsC]
       refine wpAnyH_ready (rs := [9]) (by kernel_rfl) (by simp) ?_
       refine (AllReadyH.cons rfl (fun K hK => ?_) AllReadyH.nil)
       go_simp
       refine hK.out _ _ trivial (fun _ => ?_)
       clear hK K
       try simp only [lgA, lgB, lgC, Act.put, lsA, lsB, lsC]
       refine' tkz 14 rfl ?_ ?_
       rotate_left
       ·(intro w hSw; go_simp; try (with_reducible rfl))
       try simp only [lgA, lgB, lgC, Act.put, lsA, lsB, lsC]
       refine wpAnyH_ready (rs := [15]) (by kernel_rfl) (by simp) ?_
       refine (AllReadyH.cons rfl (fun K hK => ?_) AllReadyH.nil)
       go_simp
       refine hK.out _ _ trivial (fun _ => ?_)
       clear hK K
       try simp only [lgA, lgB, lgC, Act.put, lsA, lsB, lsC]
       refine' tkz 16 rfl ?_ ?_
       rotate_left
       ·(intro w hSw; go_simp; try (with_reducible rfl))
       try simp only [lgA, lgB, lgC, Act.put, lsA, lsB, lsC]
       refine wpAnyH_ready (rs := [17]) (by kernel_rfl) (by simp) ?_
       refine (AllReadyH.cons rfl (fun K hK => ?_) AllReadyH.nil)
       go_simp
       refine hK.out _ _ trivial (fun _ => ?_)
       clear hK K
       try simp only [lgA, lgB, lgC, Act.put, lsA, lsB, lsC]
       refine wpAnyH_done (by kernel_rfl) ?_ _
       exact ⟨by kernel_rfl, HSW⟩
     ·intro t X HS
      simp only [puts, List.foldl_cons, List.foldl_nil, Act.put, List.setIfInBounds_toArray, List.set_cons_zero, List.set_cons_succ]
      go_wp2
      go_roundw
      case rel => exact ⟨k + 1, by have := HCC.out; go_num, by omega, by have := HKK.out; omega, HS⟩
      case measure => have := HKK.out; have := HCC.out; simp [intOf]; omega
    ·have ek : k = j - 1 := by omega
     subst ek
     have HE := hid (HS.out.mono (G := fun l => l.Perm l0 ∧ Seg (gd l0) (gd l) a b ∧ Srt r (gd l) a b) (fun l _ hl => by rw [hl.2]; exact ⟨hl.1, HRES.out.2, HRES.out.1⟩))
     go_wp2
     refine bodyPost_ret (results_none rfl _ _ _) rfl ?_
     exact ⟨rfl, HE.out⟩
theorem sym_r (g cap n N B : Nat) (r : Int → Int) (l0 : List Int) (a m b : Nat) (w0 : World) (h : Uz w0 g n l0) (am : a < m) (mb : m < b) (hbn : b ≤ n) (hn : n ≤ 1152921504606846976) (hbd : ∀ x ∈ l0, 0 ≤ x ∧ x < (N : Int)) (hl : Srt r (gd l0) a m) (hr : Srt r (gd l0) m b) (hst : Stb r (gd l0) a m b) (hcq : Cq w0 g B N r) (h1 : b = m + 1) (h2 : m ≠ a + 1) :
  Calls Tryz.prog 127 #[.slice (some ⟨g, 0, none⟩) n cap, .int .i64 a, .int .i64 m, .int .i64 b, .func (.func 110) #[] #[.pointer (some ⟨B, 0, none⟩)]] w0 fun e w' => e = .returned (.tuple #[]) ∧ Sp w0 w' g n (fun l => l.Perm l0 ∧ Seg (gd l0) (gd l) a b ∧ Srt r (gd l) a b) := by
 have w1 : (IntKind.i64.wrap ((m : Int) - (a : Int)) == 1) = false := by rw [IntKind.wrap_i64]; simp; omega
 have w2 : IntKind.i64.wrap ((b : Int) - (m : Int)) = 1 := by rw [IntKind.wrap_i64]; omega
 have w3 : ((m : Int) - (a : Int) == 1) = false := by simp; omega
 have HLN := hid h.len
 have HU := hid h
 have HBD := hid hbd
 have HL := hid hl
 have HR := hid hr
 have HT := hid hst
 have CQ := hid hcq
 clear h hbd hl hr hst hcq
 have h1' := hid h1
 clear h1
 go_enter Tryz.func127, Tryz.ntmps127
 go_upto_region 15 with fail
 go_loopw [14, 15] (fun iv jv wr => ∃ i j : Nat, iv = .int .i64 i ∧ jv = .int .i64 j ∧ a ≤ i ∧ i ≤ j ∧ j ≤ m ∧ Hid (Uz wr g n l0) ∧ Hid (Kp (fun b => b = g) w0 wr) ∧ Hid (∀ x, a ≤ x → x < i → lt r (gd l0 x) (gd l0 m)) ∧ Hid (∀ x, j ≤ x → x < m → lt r (gd l0 m) (gd l0 x))) (fun iv jv _ => (intOf jv - intOf iv).toNat)
 case atStart => exact ⟨a, m, rfl, rfl, by omega, by omega, by omega, HU, Kp.refl _ _, fun x h1 h2 => by omega, fun x h1 h2 => by omega⟩
 case round =>
  obtain ⟨i, j, rfl, rfl, i0, ij, j1, U1, K1, HA, HB⟩ := hrel
  clear w1 w2 w3
  by_cases hlt : i < j
  ·have il : (i : Int) < (j : Int) := by omega
   obtain ⟨h, hh⟩ : ∃ h, (i + j) / 2 = h := ⟨_, rfl⟩
   have hI : ((i : Int) + (j : Int)) / 2 = (h : Int) := by omega
   have h0 : i ≤ h := by omega
   have h1 : h < j := by omega
   have hbd9 : ∀ x, x < n → 0 ≤ gd l0 x ∧ gd l0 x < (N : Int) := fun x hx => HBD.out _ (gd_mem (by rw [HLN.out]; exact hx))
   have HP := hid (show (r (gd l0 h) < r (gd l0 m) → ∀ x, h ≤ x → x < m → lt r (gd l0 m) (gd l0 x)) ∧ (¬ r (gd l0 h) < r (gd l0 m) → ∀ x, a ≤ x → x < h + 1 → lt r (gd l0 x) (gd l0 m)) from by
    refine ⟨fun e x m1 m2 => ?_, fun e x m1 m2 => ?_⟩
    ·by_cases c : x = h
     ·rw [c]; exact .inl e
     ·exact lt_trans (.inl e) (HL.out h x (by omega) (by omega) m2)
    ·have k0 : lt r (gd l0 h) (gd l0 m) := no_lt e (HT.out h m (by omega) (by omega) (Nat.le_refl _) mb)
     by_cases c : x = h
     ·rw [c]; exact k0
     ·exact lt_trans (HL.out x h m1 (by omega) (by omega)) k0)
   have HHJ := hid (show a ≤ h ∧ i ≤ h ∧ h < j ∧ j ≤ m from ⟨by omega, by omega, by omega, by omega⟩)
   have wh : IntKind.i64.wrap ((h : Int) + 1) = ((h + 1 : Nat) : Int) := by rw [IntKind.wrap_i64]; omega
   obtain ⟨PA, hPA⟩ : ∃ P : Prop, (∀ x, a ≤ x → x < h + 1 → lt r (gd l0 x) (gd l0 m)) = P := ⟨_, rfl⟩
   obtain ⟨PB, hPB⟩ : ∃ P : Prop, (∀ x, h ≤ x → x < m → lt r (gd l0 m) (gd l0 x)) = P := ⟨_, rfl⟩
   rw [hPA, hPB] at HP
   obtain ⟨x0, x1⟩ := hbd9 m (by omega)
   obtain ⟨y0, y1⟩ := hbd9 h (by omega)
   have C1 := hid (CQ.out wr K1.out _ _ x0 x1 y0 y1)
   obtain ⟨vx, hvx⟩ : ∃ v, gd l0 m = v := ⟨_, rfl⟩
   have cx : wr.cell? ⟨g, m, none⟩ = some (.int .i64 vx) := by rw [← hvx]; exact U1.out.cell (by omega)
   obtain ⟨vy, hvy⟩ : ∃ v, gd l0 h = v := ⟨_, rfl⟩
   have cy : wr.cell? ⟨g, h, none⟩ = some (.int .i64 vy) := by rw [← hvy]; exact U1.out.cell (by omega)
   rw [hvx, hvy] at C1 HP
   have h0' : (0 : Int) ≤ (h : Int) := by omega
   have h2 : (h : Int) < (n : Int) := by omega
   have m0' : (0 : Int) ≤ (m : Int) := by omega
   have m2 : (m : Int) < (n : Int) := by omega
   clear x0 x1 y0 y1 hvx hvy hbd9
   go_upto_region 17 with fail
   try rw [hI]
   go_quiet (first | (go_at_call 110; with_reducible exact Calls.quiet_of (C1.out _)))
   rw [cm_neg]
   have U1 := hid (U1.out.same (w' := wr.drewN nq) rfl)
   have K1 := hid (K1.out.trans (Kp.drewN _ wr nq) (fun _ _ e => e))
   obtain ⟨V, hV⟩ : ∃ U, wr.drewN nq = U := ⟨_, rfl⟩
   rw [hV] at U1 K1 ⊢
   clear hV
   cases hb : decide (r vy < r vx) with
   | true =>
    have HQ := hid (show ∀ x, h ≤ x → x < m → lt r (gd l0 m) (gd l0 x) from by rw [hPB]; exact HP.out.1 (of_decide_eq_true hb))
    clear hb cx cy HP C1 hPA hPB hI hh
    go_wp2
    go_roundw
    case rel => exact ⟨i, h, rfl, by go_num, i0, by have := HHJ.out; omega, by have := HHJ.out; omega, U1, K1, HA, HQ⟩
    case measure => have := HHJ.out; simp [intOf]; omega
   | false =>
    have HQ := hid (show ∀ x, a ≤ x → x < h + 1 → lt r (gd l0 x) (gd l0 m) from by rw [hPA]; exact HP.out.2 (of_decide_eq_false hb))
    clear hb cx cy HP C1 hPA hPB hI hh
    go_wp2
    go_roundw
    case rel => exact ⟨h + 1, j, by go_num, rfl, by have := HHJ.out; omega, by have := HHJ.out; omega, j1, U1, K1, HQ, HB⟩
    case measure => have := HHJ.out; simp [intOf]; omega
  ·have eij : j = i := by omega
   subst eij
   have HRES := hid (sh2_srt (r := r) (f := gd l0) (a := a) (m := m) (i := j) i0 j1 HL.out HA.out HB.out)
   have HS0 := hid (show Sp w0 wr g n (fun l => l.Perm l0 ∧ gd l = sh2 (gd l0) m m) from ⟨l0, ⟨List.Perm.refl _, sh2_start _ _⟩, U1.out, K1.out⟩)
   clear HA HB U1 K1
   obtain ⟨V1, hV1⟩ : ∃ V, V = wr := ⟨_, rfl⟩
   subst hV1
   go_upto_region 21 with fail
   go_loopw [17] (fun kv wr => ∃ k : Nat, kv = .int .i64 k ∧ j ≤ k ∧ k ≤ m ∧ Hid (Sp w0 wr g n (fun l => l.Perm l0 ∧ gd l = sh2 (gd l0) m k))) (fun kv _ => (intOf kv).toNat)
   case atStart => exact ⟨m, rfl, j1, Nat.le_refl _, HS0⟩
   case round =>
    obtain ⟨k, rfl, k0, k1, HS⟩ := hrel
    clear HS0
    by_cases hk : j < k
    ·have ikj : (j : Int) < (k : Int) := by omega
     obtain ⟨c, hc⟩ : ∃ c, k = c + 1 := ⟨k - 1, by omega⟩
     obtain ⟨l, p1, u1, q1⟩ := HS.out
     have U1 := hid u1
     have K1 := hid q1
     have hlen := u1.len
     have P1 := hid (show (fun l => l.Perm l0 ∧ gd l = sh2 (gd l0) m c) (sw l k c) from by
      subst hc
      exact ⟨(sw_perm (by omega) (by omega)).trans p1.1, sh2_step p1.2 k1 (by omega)⟩)
     have wk : IntKind.i64.wrap ((k : Int) - 1) = (c : Int) := by rw [IntKind.wrap_i64]; omega
     have hin : k < n := by omega
     have hjn : c < n := by omega
     have k0' : (0 : Int) ≤ (k : Int) := by omega
     have k2 : (k : Int) < (n : Int) := by omega
     have c0' : (0 : Int) ≤ (c : Int) := by omega
     have c2 : (c : Int) < (n : Int) := by omega
     have HKK := hid (And.intro hk hc)
     clear p1 u1 q1 hc hlen
     go_upto_region 23 with fail
     refine reg_any [113, 114, 115, 116, 117, 118, 119, 120, 121, 122, 123, 124, 125, 126, 127, 128] (fun X => Hid (Sp w0 X g n (fun l => l.Perm l0 ∧ gd l = sh2 (gd l0) m c))) ?_ ?_
     ·have U2 := hid (U1.out.same (w' := wr.drew) rfl)
      have K2 := hid (K1.out.trans (Kp.drew _ wr) (fun _ _ e => e))
      obtain ⟨V, hV⟩ : ∃ U, wr.drew = U := ⟨_, rfl⟩
      rw [hV] at U2 K2
      obtain ⟨xi, hxi⟩ : ∃ x, gd l k = x := ⟨_, rfl⟩
      obtain ⟨xj, hxj⟩ : ∃ x, gd l c = x := ⟨_, rfl⟩
      have ci : V.cell? ⟨g, k, none⟩ = some (.int .i64 xi) := by rw [← hxi]; exact U2.out.cell hin
      have cj : V.cell? ⟨g, c, none⟩ = some (.int .i64 xj) := by rw [← hxj]; exact U2.out.cell hjn
      have fi := U2.out.frz k
      have fj := U2.out.frz c
      have U3 := hid (U2.out.set hin xj)
      have cj3 := U3.out.cell hjn
      have fj3 := U3.out.frz c
      have HSW := hid (Sp.swap (F := fun l => l.Perm l0 ∧ gd l = sh2 (gd l0) m c) P1.out U2.out K2.out hin hjn)
      rw [hxi, hxj] at HSW
      refine wp_region_held_drew (S := fun _ => True) (by kernel_rfl) trivial (fun _ => ?_)
      rw [hV]
      clear hV hxi hxj
      refine' tkz 0 rfl ?_ ?_
      rotate_left
      ·(intro w hSw; go_simp; try (with_reducible rfl))
      try simp only [lgA, lgB, lgC, Act.put, lsA, lsB, lsC]
      refine' tkz 1 rfl ?_ ?_
      rotate_left
      ·(intro w hSw; go_simp; try (with_reducible rfl))
      try simp only [lgA, lgB, lgC, Act.put, lsA, lsB, lsC]
      refine' tkz 2 rfl ?_ ?_
      rotate_left
      ·(intro w hSw; go_simp; try (with_reducible rfl))
      try simp only [lgA, lgB, lgC, Act.put, lsA, lsB, lsC]
      refine' tkz 3 rfl ?_ ?_
      rotate_left
      ·(intro w hSw; go_simp; try (with_reducible rfl))
      try simp only [lgA, lgB, lgC, Act.put, lsA, lsB, lsC]
      refine' tkz 4 rfl ?_ ?_
      rotate_left
      ·(intro w hSw; go_simp; try (with_reducible rfl))
      try simp only [lgA, lgB, lgC, Act.put, lsA, lsB, lsC]
      refine' tkz 5 rfl ?_ ?_
      rotate_left
      ·(intro w hSw; go_simp; try (with_reducible rfl))
      try simp only [lgA, lgB, lgC, Act.put, lsA, lsB, lsC]
      refine' tkz 6 rfl ?_ ?_
      rotate_left
      ·(intro w hSw; go_simp; try (with_reducible rfl))
      try simp only [lgA, lgB, lgC, Act.put, lsA, lsB, lsC]
      refine' tkz 7 rfl ?_ ?_
      rotate_left
      ·(intro w hSw; go_simp; try (with_reducible rfl))
      try simp only [lgA, lgB, lgC, Act.put, lsA, lsB, lsC]
      refine' tkz 8 rfl ?_ ?_
      rotate_left
      ·(intro w hSw; go_simp; try (with_reducible rfl))
      try simp only [lgA, lgB, lgC, Act.put, lsA, lsB, lsC]
      refine' tkz 10 rfl ?_ ?_
      rotate_left
      ·(intro w hSw; go_simp; try (with_reducible rfl))
      try simp only [lgA, lgB, lgC, Act.put, lsA, lsB, lsC]
      refine' tkz 11 rfl ?_ ?_
      rotate_left
      ·(intro w hSw; go_simp; try (with_reducible rfl))
      try simp only [lgA, lgB, lgC, Act.put, lsA, lsB, lsC]
      refine' tkz 12 rfl ?_ ?_
      rotate_left
      ·(intro w hSw; go_simp; try (with_reducible rfl))
      try simp only [lgA, lgB, lgC, Act.put, lsA, lsB, lsC]
      refine wpAnyH_ready (rs := [9, 13]) (by kernel_rfl) (by simp) ?_
      refine (AllReadyH.cons rfl (fun K hK => ?_) (AllReadyH.cons rfl (fun K hK => ?_) AllReadyH.nil))
      ·go_simp
       refine hK.out _ _ trivial (fun _ => ?_)
       clear hK K
       try simp only [lgA, lgB, lgC, Act.put, lsA, lsB, lsC]
       refine wpAnyH_ready (rs := [13]) (by kernel_rfl) (by simp) ?_
       refine (AllReadyH.cons rfl (fun K hK => ?_) AllReadyH.nil)
       go_simp
       refine hK.out _ _ trivial (fun _ => ?_)
       clear hK K
       try simp only [lgA, lgB, lgC, Act.put, lsA, lsB, lsC]
       refine' tkz 14 rfl ?_ ?_
       rotate_left
       ·(intro w hSw; go_simp; try (with_reducible rfl))
       try simp only [lgA, lgB, lgC, Act.put, lsA, lsB, lsC]
       refine wpAnyH_ready (rs := [15]) (by kernel_rfl) (by simp) ?_
       refine (AllReadyH.cons rfl (fun K hK => ?_) AllReadyH.nil)
       go_simp
       refine hK.out _ _ trivial (fun _ => ?_)
       clear hK K
       try simp only [lgA, lgB, lgC, Act.put, lsA, lsB, lsC]
       refine' tkz 16 rfl ?_ ?_
       rotate_left
       ·(intro w hSw; go_simp; try (with_reducible rfl))
       try simp only [lgA, lgB, lgC, Act.put, lsA, lsB, lsC]
       refine wpAnyH_ready (rs := [17]) (by kernel_rfl) (by simp) ?_
       refine (AllReadyH.cons rfl (fun K hK => ?_) AllReadyH.nil)
       go_simp
       refine hK.out _ _ trivial (fun _ => ?_)
       clear hK K
       try simp only [lgA, lgB, lgC, Act.put, lsA, lsB, lsC]
       refine wpAnyH_done (by kernel_rfl) ?_ _
       exact ⟨by kernel_rfl, HSW⟩
      ·go_simp
       refine hK.out _ _ trivial (fun _ => ?_)
       clear hK K
       try simp only [lgA, lgB, lgC, Act.put, lsA, lsB, lsC]
       refine wpAnyH_ready (rs := [9]) (by kernel_rfl) (by simp) ?_
       refine (AllReadyH.cons rfl (fun K hK => ?_) AllReadyH.nil)
       go_simp
       refine hK.out _ _ trivial (fun _ => ?_)
       clear hK K
       try simp only [lgA, lgB, lgC, Act.put, lsA, lsB, lsC]
       refine' tkz 14 rfl ?_ ?_
       rotate_left
       ·(intro w hSw; go_simp; try (with_reducible rfl))
       try simp only [lgA, lgB, lgC, Act.put, lsA, lsB, lsC]
       refine wpAnyH_ready (rs := [15]) (by kernel_rfl) (by simp) ?_
       refine (AllReadyH.cons rfl (fun K hK => ?_) AllReadyH.nil)
       go_simp
       refine hK.out _ _ trivial (fun _ => ?_)
       clear hK K
       try simp only [lgA, lgB, lgC, Act.put, lsA, lsB, lsC]
       refine' tkz 16 rfl ?_ ?_
       rotate_left
       ·(intro w hSw; go_simp; try (with_reducible rfl))
       try simp only [lgA, lgB, lgC, Act.put, lsA, lsB, lsC]
       refine wpAnyH_ready (rs := [17]) (by kernel_rfl) (by simp) ?_
       refine (AllReadyH.cons rfl (fun K hK => ?_) AllReadyH.nil)
       go_simp
       refine hK.out _ _ trivial (fun _ => ?_)
       clear hK K
       try simp only [lgA, lgB, lgC, Act.put, lsA, lsB, lsC]
       refine wpAnyH_done (by kernel_rfl) ?_ _
       exact ⟨by kernel_rfl, HSW⟩
     ·intro t X HS
      simp only [puts, List.foldl_cons, List.foldl_nil, Act.put, List.setIfInBounds_toArray, List.set_cons_zero, List.set_cons_succ]
      go_wp2
      go_roundw
      case rel => exact ⟨c, by go_num, by have := HKK.out; omega, by have := HKK.out; omega, HS⟩
      case measure => have := HKK.out; simp [intOf]; omega
    ·have ek : k = j := by omega
     subst ek
     have HE := hid (HS.out.mono (G := fun l => l.Perm l0 ∧ Seg (gd l0) (gd l) a b ∧ Srt r (gd l) a b) (fun l _ hl => by rw [hl.2, h1'.out]; exact ⟨hl.1, HRES.out.2, HRES.out.1⟩))
     go_wp2
     refine bodyPost_ret (results_none rfl _ _ _) rfl ?_
     exact ⟨rfl, HE.out⟩
end Go.Proofs.YtlhbgaiiehljpaaGreat.Ss
