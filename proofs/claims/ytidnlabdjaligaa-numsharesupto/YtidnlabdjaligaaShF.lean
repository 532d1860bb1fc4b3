/-
  NumShared: the walk.
-/
import Derived.Test.YtidnlabdjaligaaShE
namespace Go.Proofs.Ytidnlabdjaligaa.Ss
open Go.RowKit Go.Deep
set_option linter.unusedVariables false
set_option linter.unusedSimpArgs false
set_option maxHeartbeats 8000000
set_option maxRecDepth 100000
attribute [local go_sem ↓] Go.wp_at_zero Go.wp_at_succ
theorem own_z {base n : Nat} {w : World} {v : Value} {xs : List Value} (h : w.ownsRow base 22 1 v (0 + n) ([] ++ xs)) : w.ownsRow base 22 1 v n xs := by simpa using h
theorem rd_len {l : List Int} {n : Nat} (h : l.length = n) : (ivw l).length = n * 1 := by rw [ivw_len, h]
theorem rd_add {w : World} {b off : Nat} {l : List Int} (h : Rw w b off l) : ∀ ad, (some ⟨b, off, none⟩ : Option Addr) = some ad → ∀ j u, (ivw l)[j]? = some u → w.cell? (ad.add j) = some u := fun ad e j u hj => by
  injection e with e
  subst e
  obtain ⟨h1, h2⟩ := ivw_at hj
  rw [Addr.add_lit, h2]
  exact h.2 j h1
theorem shared_over (A : Int) (ws : List Int) (b off cap : Nat) (w : World) (hA : Word A) (hws : ∀ x ∈ ws, Word x) (h0 : 0 < ws.length) (hn : ws.length ≤ 17592186044416) (hr : Rw w b off ws) (hS : ¬ sumL ws < 18446744073709551616) :
    Calls Try.prog 3 #[.int .u64 A, .slice (some ⟨b, off, none⟩) ws.length cap] w fun e w' => e = .returned (.bool true) ∧ Below w.heap.size w w' := by
  have C5 := hid (show ∀ (U : World) (g d : Nat), Rw U g 0 ws → Calls Try.prog 5 #[.int .u64 A, .slice (some ⟨g, 0, none⟩) ws.length d] U fun e w' => e = .returned (.tuple #[.slice none 0 0, .int .i64 10]) ∧ w' = U from fun U g d hR => share_over A ws g 0 d U hws h0 hn hR hS)
  have C6 := hid (show ∀ (U : World) (g d : Nat), Rw U g 0 ws → Calls Try.prog 6 #[.slice (some ⟨g, 0, none⟩) ws.length d] U fun e w' => e = .returned (.tuple #[.int .u64 0, .int .i64 10]) ∧ w' = U from fun U g d hR => by
    have h9 := sum_w d U hws hn hR
    rw [show sumV ws = 0 from if_neg hS, show sumE ws = 10 from if_neg hS] at h9
    exact h9)
  obtain ⟨n, hnn⟩ : ∃ n, ws.length = n := ⟨_, rfl⟩
  have HL := hid hnn
  rw [hnn] at C5 C6 h0 hn ⊢
  have e0 : ((n : Int) == 0) = false := by simp; omega
  have HR := hid hr
  clear hr hws hS hnn
  obtain ⟨W1, hW1⟩ : ∃ W, w.alloc (.cells #[] 22) = W := ⟨_, rfl⟩
  have B1 := hid (show Below w.heap.size w W1 from by rw [← hW1]; exact (Below.refl _ w).alloc (Nat.le_refl _) _)
  have O1 := hid (show W1.ownsRow w.heap.size 22 1 (.slice (some ⟨w.heap.size, 0, none⟩) 0 0) 0 [] from by rw [← hW1]; exact own_empty w)
  have HW1 := hid hW1
  clear hW1
  have R1 := hid (HR.out.on B1.out)
  go_enter Try.func3, Try.ntmps3
  go_upto_region 2 with (first | (rw [HW1.out]; at_builtin; refine wpList_app_rd (by rfl) (.tmp 17) (.tmp 18) 23 22 _ 1 8 (by rfl) Try.underlying23 infoW rfl (by decide) w.heap.size _ 0 [] (by rfl) O1.out (some ⟨b, off, none⟩) cap n (ivw ws) (by rfl) (fun e => by cases e) (rd_len HL.out) (rd_add R1.out) (ivw_one _) (by unfold maxLen; omega) (by omega) B1.out.size ?_; intro v' w2 hown hgrow; have hown := own_z hown; obtain ⟨qw2, dw2, rfl⟩ := own_form hown; obtain ⟨gw2, rfl, lw2, hrw⟩ := own_rw HL.out h0 hown; have R2 := hid hrw; have B2 := hid (below_app B1.out O1.out hgrow); clear hown hgrow hrw) | (go_at_call 5; with_reducible refine (C5.out _ _ _ R2.out).mono ?_; rintro e w9 ⟨rfl, h1⟩; have h1 := h1.symm; subst h1))
  obtain ⟨W3, hW3⟩ : ∃ W, w2.alloc (.cells #[] 22) = W := ⟨_, rfl⟩
  have B3 := hid (show Below w2.heap.size w2 W3 from by rw [← hW3]; exact (Below.refl _ w2).alloc (Nat.le_refl _) _)
  have O3 := hid (show W3.ownsRow w2.heap.size 22 1 (.slice (some ⟨w2.heap.size, 0, none⟩) 0 0) 0 [] from by rw [← hW3]; exact own_empty w2)
  have HW3 := hid hW3
  clear hW3
  have R3 := hid ((HR.out.on B2.out).on B3.out)
  go_wp2_with (first | (rw [HW3.out]; at_builtin; refine wpList_app_rd (by rfl) (.tmp 24) (.tmp 25) 23 22 _ 1 8 (by rfl) Try.underlying23 infoW rfl (by decide) w2.heap.size _ 0 [] (by rfl) O3.out (some ⟨b, off, none⟩) cap n (ivw ws) (by rfl) (fun e => by cases e) (rd_len HL.out) (rd_add R3.out) (ivw_one _) (by unfold maxLen; omega) (by omega) B3.out.size ?_; intro v' w4 hown hgrow; have hown := own_z hown; obtain ⟨qw4, dw4, rfl⟩ := own_form hown; obtain ⟨gw4, rfl, lw4, hrw⟩ := own_rw HL.out h0 hown; have R4 := hid hrw; have B4 := hid (below_app B3.out O3.out hgrow); clear hown hgrow hrw) | (go_at_call 6; with_reducible refine (C6.out _ _ _ R4.out).mono ?_; rintro e w9 ⟨rfl, h1⟩; have h1 := h1.symm; subst h1))
  go_ret
  exact ⟨rfl, B2.out.trans (B4.out.mono B2.out.size)⟩
theorem shared_zero (A : Int) (ws : List Int) (b off cap : Nat) (w : World) (hA : Word A) (hws : ∀ x ∈ ws, Word x) (h0 : 0 < ws.length) (hn : ws.length ≤ 17592186044416) (hr : Rw w b off ws) (hS : sumL ws = 0) :
    Calls Try.prog 3 #[.int .u64 A, .slice (some ⟨b, off, none⟩) ws.length cap] w fun e w' => e = .returned (.bool true) ∧ Below w.heap.size w w' := by
  have C5 := hid (show ∀ (U : World) (g d : Nat), Rw U g 0 ws → Calls Try.prog 5 #[.int .u64 A, .slice (some ⟨g, 0, none⟩) ws.length d] U fun e w' => e = .returned (.tuple #[.slice none 0 0, .int .i64 11]) ∧ w' = U from fun U g d hR => share_zero A ws g 0 d U hws h0 hn hR hS)
  have C6 := hid (show ∀ (U : World) (g d : Nat), Rw U g 0 ws → Calls Try.prog 6 #[.slice (some ⟨g, 0, none⟩) ws.length d] U fun e w' => e = .returned (.tuple #[.int .u64 0, .int .i64 0]) ∧ w' = U from fun U g d hR => by
    have h9 := sum_w d U hws hn hR
    rw [show sumV ws = 0 from by unfold sumV; rw [hS]; rfl, show sumE ws = 0 from by unfold sumE; rw [hS]; rfl] at h9
    exact h9)
  obtain ⟨n, hnn⟩ : ∃ n, ws.length = n := ⟨_, rfl⟩
  have HL := hid hnn
  rw [hnn] at C5 C6 h0 hn ⊢
  have e0 : ((n : Int) == 0) = false := by simp; omega
  have HR := hid hr
  clear hr hws hS hnn
  obtain ⟨W1, hW1⟩ : ∃ W, w.alloc (.cells #[] 22) = W := ⟨_, rfl⟩
  have B1 := hid (show Below w.heap.size w W1 from by rw [← hW1]; exact (Below.refl _ w).alloc (Nat.le_refl _) _)
  have O1 := hid (show W1.ownsRow w.heap.size 22 1 (.slice (some ⟨w.heap.size, 0, none⟩) 0 0) 0 [] from by rw [← hW1]; exact own_empty w)
  have HW1 := hid hW1
  clear hW1
  have R1 := hid (HR.out.on B1.out)
  go_enter Try.func3, Try.ntmps3
  go_upto_region 2 with (first | (rw [HW1.out]; at_builtin; refine wpList_app_rd (by rfl) (.tmp 17) (.tmp 18) 23 22 _ 1 8 (by rfl) Try.underlying23 infoW rfl (by decide) w.heap.size _ 0 [] (by rfl) O1.out (some ⟨b, off, none⟩) cap n (ivw ws) (by rfl) (fun e => by cases e) (rd_len HL.out) (rd_add R1.out) (ivw_one _) (by unfold maxLen; omega) (by omega) B1.out.size ?_; intro v' w2 hown hgrow; have hown := own_z hown; obtain ⟨qw2, dw2, rfl⟩ := own_form hown; obtain ⟨gw2, rfl, lw2, hrw⟩ := own_rw HL.out h0 hown; have R2 := hid hrw; have B2 := hid (below_app B1.out O1.out hgrow); clear hown hgrow hrw) | (go_at_call 5; with_reducible refine (C5.out _ _ _ R2.out).mono ?_; rintro e w9 ⟨rfl, h1⟩; have h1 := h1.symm; subst h1))
  obtain ⟨W3, hW3⟩ : ∃ W, w2.alloc (.cells #[] 22) = W := ⟨_, rfl⟩
  have B3 := hid (show Below w2.heap.size w2 W3 from by rw [← hW3]; exact (Below.refl _ w2).alloc (Nat.le_refl _) _)
  have O3 := hid (show W3.ownsRow w2.heap.size 22 1 (.slice (some ⟨w2.heap.size, 0, none⟩) 0 0) 0 [] from by rw [← hW3]; exact own_empty w2)
  have HW3 := hid hW3
  clear hW3
  have R3 := hid ((HR.out.on B2.out).on B3.out)
  go_wp2_with (first | (rw [HW3.out]; at_builtin; refine wpList_app_rd (by rfl) (.tmp 24) (.tmp 25) 23 22 _ 1 8 (by rfl) Try.underlying23 infoW rfl (by decide) w2.heap.size _ 0 [] (by rfl) O3.out (some ⟨b, off, none⟩) cap n (ivw ws) (by rfl) (fun e => by cases e) (rd_len HL.out) (rd_add R3.out) (ivw_one _) (by unfold maxLen; omega) (by omega) B3.out.size ?_; intro v' w4 hown hgrow; have hown := own_z hown; obtain ⟨qw4, dw4, rfl⟩ := own_form hown; obtain ⟨gw4, rfl, lw4, hrw⟩ := own_rw HL.out h0 hown; have R4 := hid hrw; have B4 := hid (below_app B3.out O3.out hgrow); clear hown hgrow hrw) | (go_at_call 6; with_reducible refine (C6.out _ _ _ R4.out).mono ?_; rintro e w9 ⟨rfl, h1⟩; have h1 := h1.symm; subst h1))
  go_ret
  exact ⟨rfl, B2.out.trans (B4.out.mono B2.out.size)⟩
theorem shared_ok (A : Int) (ws : List Int) (b off cap : Nat) (w : World) (hA : Word A) (hws : ∀ x ∈ ws, Word x) (h0 : 0 < ws.length) (hn : ws.length ≤ 17592186044416) (hr : Rw w b off ws) (S : Int) (hS : sumL ws = S) (hS0 : 0 < S) (hS1 : S < 18446744073709551616) :
    Calls Try.prog 3 #[.int .u64 A, .slice (some ⟨b, off, none⟩) ws.length cap] w fun e w' => e = .returned (.bool true) ∧ Below w.heap.size w w' := by
  have C5 := hid (show ∀ (U : World) (g d : Nat), Rw U g 0 ws → Calls Try.prog 5 #[.int .u64 A, .slice (some ⟨g, 0, none⟩) ws.length d] U fun e w' => ∃ gp ps, e = .returned (.tuple #[.slice (some ⟨gp, 0, none⟩) ws.length ws.length, .int .i64 0]) ∧ Uw w' gp ws.length ps ∧ Sh A S ws ps ∧ U.heap.size ≤ gp ∧ Below U.heap.size U w' from fun U g d hR => share_ok A S ws g 0 d U hA hws h0 hn hR hS hS0 hS1)
  have C6 := hid (show ∀ (U : World) (g d : Nat), Rw U g 0 ws → Calls Try.prog 6 #[.slice (some ⟨g, 0, none⟩) ws.length d] U fun e w' => e = .returned (.tuple #[.int .u64 S, .int .i64 0]) ∧ w' = U from fun U g d hR => by
    have h9 := sum_w d U hws hn hR
    rw [show sumV ws = S from by unfold sumV; rw [hS, if_pos hS1], show sumE ws = 0 from by unfold sumE; rw [hS, if_pos hS1]] at h9
    exact h9)
  have HWD := hid (show ∀ i, i < ws.length → Word (gd ws i) ∧ gd ws i ≤ S from fun i hi => ⟨hws _ (gd_mem hi), by rw [← hS]; exact (word_le hws hi).2⟩)
  obtain ⟨n, hnn⟩ : ∃ n, ws.length = n := ⟨_, rfl⟩
  have HL := hid hnn
  rw [hnn] at C5 C6 h0 hn HWD ⊢
  have e0 : ((n : Int) == 0) = false := by simp; omega
  have eS : (S == 0) = false := by simp; omega
  have HR := hid hr
  have HA := hid hA
  have HS := hid (And.intro hS0 hS1)
  clear hr hws hS hnn hA hS0 hS1
  obtain ⟨W1, hW1⟩ : ∃ W, w.alloc (.cells #[] 22) = W := ⟨_, rfl⟩
  have B1 := hid (show Below w.heap.size w W1 from by rw [← hW1]; exact (Below.refl _ w).alloc (Nat.le_refl _) _)
  have O1 := hid (show W1.ownsRow w.heap.size 22 1 (.slice (some ⟨w.heap.size, 0, none⟩) 0 0) 0 [] from by rw [← hW1]; exact own_empty w)
  have HW1 := hid hW1
  clear hW1
  have R1 := hid (HR.out.on B1.out)
  go_enter Try.func3, Try.ntmps3
  go_upto_region 2 with (first | (rw [HW1.out]; at_builtin; refine wpList_app_rd (by rfl) (.tmp 17) (.tmp 18) 23 22 _ 1 8 (by rfl) Try.underlying23 infoW rfl (by decide) w.heap.size _ 0 [] (by rfl) O1.out (some ⟨b, off, none⟩) cap n (ivw ws) (by rfl) (fun e => by cases e) (rd_len HL.out) (rd_add R1.out) (ivw_one _) (by unfold maxLen; omega) (by omega) B1.out.size ?_; intro v' w2 hown hgrow; have hown := own_z hown; obtain ⟨qw2, dw2, rfl⟩ := own_form hown; obtain ⟨gw2, rfl, lw2, hrw⟩ := own_rw HL.out h0 hown; have R2 := hid hrw; have B2 := hid (below_app B1.out O1.out hgrow); clear hown hgrow hrw) | (go_at_call 5; with_reducible refine (C5.out _ _ _ R2.out).mono ?_; rintro e w3 ⟨gp, ps, rfl, z1, z2, z3, z4⟩; have U3 := hid z1; have SH := hid z2; have L3 := hid z3; have D3 := hid z4; clear z1 z2 z3 z4))
  have BB3 := hid (B2.out.trans (D3.out.mono B2.out.size))
  clear B1 O1 HW1 R1 R2 C5 B2 D3
  obtain ⟨W3, hW3⟩ : ∃ W, w3.alloc (.cells #[] 22) = W := ⟨_, rfl⟩
  have B4 := hid (show Below w3.heap.size w3 W3 from by rw [← hW3]; exact (Below.refl _ w3).alloc (Nat.le_refl _) _)
  have O4 := hid (show W3.ownsRow w3.heap.size 22 1 (.slice (some ⟨w3.heap.size, 0, none⟩) 0 0) 0 [] from by rw [← hW3]; exact own_empty w3)
  have HW3 := hid hW3
  clear hW3
  have R3 := hid ((HR.out.on BB3.out).on B4.out)
  go_upto_region 3 with (first | (rw [HW3.out]; at_builtin; refine wpList_app_rd (by rfl) (.tmp 24) (.tmp 25) 23 22 _ 1 8 (by rfl) Try.underlying23 infoW rfl (by decide) w3.heap.size _ 0 [] (by rfl) O4.out (some ⟨b, off, none⟩) cap n (ivw ws) (by rfl) (fun e => by cases e) (rd_len HL.out) (rd_add R3.out) (ivw_one _) (by unfold maxLen; omega) (by omega) B4.out.size ?_; intro v' w5 hown hgrow; have hown := own_z hown; obtain ⟨qw5, dw5, rfl⟩ := own_form hown; obtain ⟨gw5, rfl, lw5, hrw⟩ := own_rw HL.out h0 hown; have R5 := hid hrw; have B5 := hid (below_app B4.out O4.out hgrow); clear hown hgrow hrw) | (go_at_call 6; with_reducible refine (C6.out _ _ _ R5.out).mono ?_; rintro e w9 ⟨rfl, h1⟩; have h1 := h1.symm; subst h1))
  have U5 := hid (U3.out.on B5.out)
  have BB5 := hid (BB3.out.trans (B5.out.mono BB3.out.size))
  clear B4 O4 HW3 R3 R5 C6 U3 BB3 B5
  have HLP := hid (show ps.length = n from by rw [SH.out.len]; exact HL.out)
  have C7 := hid (show ∀ (U : World) (g d : Nat), Rw U g 0 ps → Calls Try.prog 6 #[.slice (some ⟨g, 0, none⟩) n d] U fun e w' => e = .returned (.tuple #[.int .u64 A, .int .i64 0]) ∧ w' = U from fun U g d hR => by
    have hw9 : ∀ x ∈ ps, Word x := fun x hx => by
      obtain ⟨i, hi, e⟩ := List.getElem_of_mem hx
      rw [← e, ← gd_get hi]
      have := SH.out.wd i (by rw [← SH.out.len]; exact hi)
      exact ⟨this.1, by have := HA.out.2; omega⟩
    have h9 := sum_w d U hw9 (by rw [HLP.out]; exact hn) hR
    rw [show sumV ps = A from by unfold sumV; rw [SH.out.sum, if_pos HA.out.2], show sumE ps = 0 from by unfold sumE; rw [SH.out.sum, if_pos HA.out.2], HLP.out] at h9
    exact h9)
  obtain ⟨W6, hW6⟩ : ∃ W, w5.alloc (.cells #[] 22) = W := ⟨_, rfl⟩
  have B6 := hid (show Below w5.heap.size w5 W6 from by rw [← hW6]; exact (Below.refl _ w5).alloc (Nat.le_refl _) _)
  have O6 := hid (show W6.ownsRow w5.heap.size 22 1 (.slice (some ⟨w5.heap.size, 0, none⟩) 0 0) 0 [] from by rw [← hW6]; exact own_empty w5)
  have HW6 := hid hW6
  clear hW6
  have R6 := hid ((U5.out.on B6.out).rw)
  have en : ((n : Int) != (n : Int)) = false := by simp
  have eA : (A != A) = false := by simp
  go_upto_region 11 with (first | (rw [HW6.out]; at_builtin; refine wpList_app_rd (by rfl) (.tmp 64) (.tmp 65) 23 22 _ 1 8 (by rfl) Try.underlying23 infoW rfl (by decide) w5.heap.size _ 0 [] (by rfl) O6.out (some ⟨gp, 0, none⟩) n n (ivw ps) (by rfl) (fun e => by cases e) (rd_len HLP.out) (rd_add R6.out) (ivw_one _) (by unfold maxLen; omega) (by omega) B6.out.size ?_; intro v' w7 hown hgrow; have hown := own_z hown; obtain ⟨qw7, dw7, rfl⟩ := own_form hown; obtain ⟨gw7, rfl, lw7, hrw⟩ := own_rw HLP.out h0 hown; have R7 := hid hrw; have B7 := hid (below_app B6.out O6.out hgrow); clear hown hgrow hrw) | (go_at_call 6; with_reducible refine (C7.out _ _ _ R7.out).mono ?_; rintro e w9 ⟨rfl, h1⟩; have h1 := h1.symm; subst h1))
  have U7 := hid (U5.out.on B7.out)
  have BB7 := hid (BB5.out.trans (B7.out.mono BB5.out.size))
  have RW7 := hid (HR.out.on BB7.out)
  clear B6 O6 HW6 R6 R7 C7 U5 BB5 B7 HR en eA e0 eS
  go_loopw [11] (fun iv wr => ∃ i, i ≤ n ∧ iv = .int .i64 (i : Nat) ∧ Hid (Below w7.heap.size w7 wr)) (fun iv _ => n - (intOf iv).toNat)
  case atStart => exact ⟨0, Nat.zero_le _, rfl, Below.refl _ _⟩
  case round =>
    obtain ⟨i, hin, rfl, BW⟩ := hrel
    by_cases hlt : i < n
    · have hi : i < ws.length := by rw [HL.out]; exact hlt
      have cw := (RW7.out.on BW.out).2 i hi
      obtain ⟨wd, wle⟩ := HWD.out i hlt
      have hup := SH.out.up i hi
      have hno := SH.out.no i hi
      have hwd := SH.out.wd i hi
      obtain ⟨y, hy⟩ : ∃ y, gd ws i = y := ⟨_, rfl⟩
      rw [hy] at cw wd wle hup hno
      obtain ⟨x, hx⟩ : ∃ x, gd ps i = x := ⟨_, rfl⟩
      rw [hx] at hup hno hwd
      have C8 := hid (show ∀ U, Calls Try.prog 7 #[.int .u64 A, .int .u64 y, .int .u64 S, .int .i64 0] U fun e w' => e = .returned (.tuple #[.int .u64 (A * y / S), .int .i64 0]) ∧ ∃ k, w' = U.drewN k from fun U => by
        have h9 := part_any A y S 0 U (.inl rfl) HA.out wd HS.out.1 HS.out.2
        have hlt9 : ¬ S * 18446744073709551616 ≤ A * y := by
          have h1 : A * y ≤ A * S := Int.mul_le_mul_of_nonneg_left wle HA.out.1
          have h2 : A * S ≤ 18446744073709551615 * S := Int.mul_le_mul_of_nonneg_right (by have := HA.out.2; omega) (by have := HS.out.1; omega)
          have := HS.out.1
          omega
        have hub : upB (A * y / S) (A * y % S) S 0 = false := by simp [upB]
        rw [show partV A y S 0 = A * y / S from by unfold partV; rw [if_neg hlt9, hub]; rfl, show partE A y S 0 = 0 from by unfold partE; rw [if_neg hlt9, hub]; rfl] at h9
        exact h9)
      obtain ⟨d, hd⟩ : ∃ d, A * y / S = d := ⟨_, rfl⟩
      rw [hd] at C8 hup
      have i0 : (0 : Int) ≤ (i : Int) := by omega
      have i1 : (i : Int) < (n : Int) := by omega
      have HXY := hid (And.intro hx hy)
      have HLT := hid hlt
      have BWX := hid (show ∀ k, Below w7.heap.size w7 (wr.drewN k) from fun k => BW.out.trans (Kp.below (Kp.drewN (fun _ => False) wr k) BW.out.size (fun j hj e => False.elim e)))
      go_upto_region 14 with (go_at_call 7; with_reducible refine (C8.out _).mono ?_; rintro e w8 ⟨rfl, k8, h8⟩; have B8 := hid (show Below w7.heap.size w7 w8 from by rw [h8]; exact BWX.out k8); clear h8)
      have cx := (U7.out.on B8.out).cell hlt
      have cw8 := (RW7.out.on B8.out).2 i hi
      rw [hx] at cx
      rw [hy] at cw8
      have E1 : (x != d) = false ∨ (x != d) = true ∧ (x != IntKind.u64.wrap (d + 1)) = false := by
        rcases hup with h | h
        · exact .inl (by simp [h])
        · refine .inr ⟨by simp; omega, ?_⟩
          have : IntKind.u64.wrap (d + 1) = d + 1 := by rw [IntKind.wrap_u64]; have := HA.out.2; omega
          rw [this, h]
          simp
      have E2 : (y == 0) = false ∨ (y == 0) = true ∧ (x != 0) = false := by
        by_cases c : y = 0
        · exact .inr ⟨by simp [c], by simp [hno c]⟩
        · exact .inl (by simp [c])
      clear C8 BWX hup hno hwd wd wle cw hx hy hd
      rcases E1 with f1 | ⟨f1, f2⟩ <;> rcases E2 with f3 | ⟨f3, f4⟩
      all_goals (
        go_upto_region 17 with fail
        obtain ⟨V8, hV8⟩ : ∃ V, V = w8 := ⟨_, rfl⟩
        subst hV8
        go_loopw [14] (fun jv wr => ∃ j, j ≤ i ∧ jv = .int .i64 (j : Nat) ∧ Hid (Below w7.heap.size w7 wr)) (fun jv _ => i - (intOf jv).toNat)
        case atStart => exact ⟨0, Nat.zero_le _, rfl, B8⟩
        case round =>
          obtain ⟨j, hji, rfl, BJ⟩ := hrel
          have a1 := (U7.out.on BJ.out).cell HLT.out
          have a2 := (RW7.out.on BJ.out).2 i (by rw [HL.out]; exact HLT.out)
          rw [HXY.out.1] at a1
          rw [HXY.out.2] at a2
          by_cases hlj : j < i
          · have hjn : j < n := by have := HLT.out; omega
            have b1 := (U7.out.on BJ.out).cell hjn
            have b2 := (RW7.out.on BJ.out).2 j (by rw [HL.out]; exact hjn)
            have heq := SH.out.eq i j hlj (by rw [HL.out]; exact HLT.out)
            rw [HXY.out.1, HXY.out.2] at heq
            obtain ⟨xj, hxj⟩ : ∃ x, gd ps j = x := ⟨_, rfl⟩
            obtain ⟨yj, hyj⟩ : ∃ x, gd ws j = x := ⟨_, rfl⟩
            rw [hxj] at b1 heq
            rw [hyj] at b2 heq
            have E3 : (y == yj) = false ∨ (y == yj) = true ∧ decide (xj < x) = false := by
              by_cases c : y = yj
              · exact .inr ⟨by simp [c], decide_eq_false (by have := heq c; omega)⟩
              · exact .inl (by simp [c])
            have i0 : (0 : Int) ≤ (i : Int) := by omega
            have i1 : (i : Int) < (n : Int) := by have := HLT.out; omega
            have j0 : (0 : Int) ≤ (j : Int) := by omega
            have j1 : (j : Int) < (n : Int) := by omega
            have ji : (j : Int) < (i : Int) := by omega
            have wj : IntKind.i64.wrap ((j : Int) + 1) = ((j + 1 : Nat) : Int) := by rw [IntKind.wrap_i64]; omega
            have HLJ := hid hlj
            clear heq hxj hyj
            rcases E3 with e3 | ⟨e3, e4⟩
            all_goals (
              go_upto_region 19 with fail
              go_quiet (fail)
              have BQ := hid (show Below w7.heap.size w7 (wr.drewN nq) from BJ.out.trans (Kp.below (Kp.drewN (fun _ => False) wr nq) BJ.out.size (fun j hj e => False.elim e)))
              obtain ⟨V, hV⟩ : ∃ V, wr.drewN nq = V := ⟨_, rfl⟩
              rw [hV] at BQ ⊢
              clear hV
              go_wp2
              go_roundw
              case rel => exact ⟨j + 1, HLJ.out, by go_num, BQ⟩
              case measure => have := HLJ.out; simp [intOf]; omega)
          · obtain rfl : j = i := by omega
            have wi : IntKind.i64.wrap ((j : Int) + 1) = ((j + 1 : Nat) : Int) := by rw [IntKind.wrap_i64]; have := HLT.out; omega
            go_wp2
            go_roundw
            case rel => exact ⟨j + 1, HLT.out, by go_num, BJ⟩
            case measure => have := HLT.out; simp [intOf]; omega)
    · obtain rfl : i = n := by omega
      go_wp2
      go_ret
      exact ⟨rfl, BB7.out.trans (BW.out.mono BB7.out.size)⟩
theorem shared_any (A : Int) (ws : List Int) (q : Option Addr) (cap : Nat) (w : World) (hA : Word A) (hws : ∀ x ∈ ws, Word x) (hn : ws.length ≤ 17592186044416) (hq : q = none → cap = 0) (hr : 0 < ws.length → ∃ b off, q = some ⟨b, off, none⟩ ∧ Rw w b off ws) :
    Calls Try.prog 3 #[.int .u64 A, .slice q ws.length cap] w fun e w' => e = .returned (.bool true) ∧ Below w.heap.size w w' := by
  by_cases h0 : 0 < ws.length
  · obtain ⟨b, off, rfl, hR⟩ := hr h0
    by_cases hS : sumL ws < 18446744073709551616
    · by_cases hz : sumL ws = 0
      · exact shared_zero A ws b off cap w hA hws h0 hn hR hz
      · have := sumL_nonneg ws (fun x hx => (hws x hx).1)
        exact shared_ok A ws b off cap w hA hws h0 hn hR _ rfl (by omega) hS
    · exact shared_over A ws b off cap w hA hws h0 hn hR hS
  · have e : ws.length = 0 := by omega
    rw [e]
    exact shared_none A q cap w hq
end Go.Proofs.Ytidnlabdjaligaa.Ss
