/-
  StF
-/
import Derived.Test.YtlhbgaiiehljpaaGreatStE
namespace Go.Proofs.YtlhbgaiiehljpaaGreat.Ss
open Go.RowKit Go.Deep
set_option linter.unusedVariables false
set_option linter.unusedSimpArgs false
set_option maxHeartbeats 8000000
set_option maxRecDepth 100000
attribute [local go_sem ↓] Go.wp_at_zero Go.wp_at_succ
theorem rot_id {f : Nat → Int} {s m e : Nat} (h : s = m ∨ e = m) (hs : s ≤ m) (he : m ≤ e) : f = rot f s m e := by
 funext x
 unfold rot
 by_cases c1 : s ≤ x ∧ x < s + (e - m)
 ·rw [if_pos c1]
  congr 1
  omega
 ·rw [if_neg c1]
  by_cases c2 : s + (e - m) ≤ x ∧ x < e
  ·rw [if_pos c2]
   congr 1
   omega
  ·rw [if_neg c2]
theorem srt_no {r : Int → Int} {f : Nat → Int} {a s m : Nat} (h1 : Srt r f a s) (h2 : Srt r f s m) (h : ¬ (a < s ∧ s < m)) (ha : a ≤ s) (hs : s ≤ m) : Srt r f a m := by
 by_cases c : a = s
 ·rw [c]; exact h2
 ·have : s = m := by omega
  rw [← this]; exact h1
theorem sym_fin {r : Int → Int} {f f1 f2 f3 : Nat → Int} {a mid b : Nat} (am : a ≤ mid) (mb : mid ≤ b) (h1 : Seg f f1 a b) (hx : ∀ x y, a ≤ x → x < mid → mid ≤ y → y < b → lt r (f1 x) (f1 y)) (k2 : Seg f1 f2 a mid) (s2 : Srt r f2 a mid) (k3 : Seg f2 f3 mid b) (s3 : Srt r f3 mid b) : Seg f f3 a b ∧ Srt r f3 a b := by
 have g13 : Seg f1 f3 a b := (k2.mono (Nat.le_refl _) mb).trans (k3.mono am (Nat.le_refl _))
 refine ⟨h1.trans g13, halves am mb hx g13 (fun x x1 x2 => ?_) (fun x x1 x2 => ?_) (s2.congr (fun x x1 x2 => k3.out x (.inl x2))) s3⟩
 ·obtain ⟨y, y1, y2, y3⟩ := k2.inn x x1 x2
  exact ⟨y, y1, y2, by rw [k3.out x (.inl x2), y3]⟩
 ·obtain ⟨y, y1, y2, y3⟩ := k3.inn x x1 x2
  exact ⟨y, y1, y2, by rw [y3, k2.out y (.inr y1)]⟩
theorem sym_m (g cap n N B : Nat) (r : Int → Int) (l0 : List Int) (a m b : Nat) (w0 : World) (h : Uz w0 g n l0) (am : a < m) (mb : m < b) (hbn : b ≤ n) (hn : n ≤ 1152921504606846976) (hbd : ∀ x ∈ l0, 0 ≤ x ∧ x < (N : Int)) (hl : Srt r (gd l0) a m) (hr : Srt r (gd l0) m b) (hst : Stb r (gd l0) a m b) (hcq : Cq w0 g B N r) (h1 : m ≠ a + 1) (h2 : b ≠ m + 1) (ih : ∀ (l0 : List Int) (a' m' b' : Nat) (w0 : World), b' - a' < b - a → Uz w0 g n l0 → a' < m' → m' < b' → b' ≤ n → (∀ x ∈ l0, 0 ≤ x ∧ x < (N : Int)) → Srt r (gd l0) a' m' → Srt r (gd l0) m' b' → Stb r (gd l0) a' m' b' → Cq w0 g B N r → Calls Tryz.prog 127 #[.slice (some ⟨g, 0, none⟩) n cap, .int .i64 a', .int .i64 m', .int .i64 b', .func (.func 110) #[] #[.pointer (some ⟨B, 0, none⟩)]] w0 fun e w' => e = .returned (.tuple #[]) ∧ Sp w0 w' g n (fun l => l.Perm l0 ∧ Seg (gd l0) (gd l) a' b' ∧ Srt r (gd l) a' b')) :
  Calls Tryz.prog 127 #[.slice (some ⟨g, 0, none⟩) n cap, .int .i64 a, .int .i64 m, .int .i64 b, .func (.func 110) #[] #[.pointer (some ⟨B, 0, none⟩)]] w0 fun e w' => e = .returned (.tuple #[]) ∧ Sp w0 w' g n (fun l => l.Perm l0 ∧ Seg (gd l0) (gd l) a b ∧ Srt r (gd l) a b) := by
 have w3 : ((m : Int) - (a : Int) == 1) = false := by simp; omega
 have w4 : ((b : Int) - (m : Int) == 1) = false := by simp; omega
 have w5 : IntKind.i64.wrap ((m : Int) - (a : Int)) = (m : Int) - (a : Int) := by rw [IntKind.wrap_i64]; omega
 have w6 : IntKind.i64.wrap ((b : Int) - (m : Int)) = (b : Int) - (m : Int) := by rw [IntKind.wrap_i64]; omega
 have w7 : IntKind.i64.wrap ((a : Int) + (b : Int)) = (a : Int) + (b : Int) := by rw [IntKind.wrap_i64]; omega
 obtain ⟨mid, hmid⟩ : ∃ x, (a + b) / 2 = x := ⟨_, rfl⟩
 have midI : ((a : Int) + (b : Int)) / 2 = (mid : Int) := by omega
 obtain ⟨nn, hnn⟩ : ∃ x, mid + m = x := ⟨_, rfl⟩
 have w8 : (mid : Int) + (m : Int) = (nn : Int) := by omega
 obtain ⟨pp, hpp⟩ : ∃ x, nn - 1 = x := ⟨_, rfl⟩
 have w9 : (nn : Int) - 1 = (pp : Int) := by omega
 have HLN := hid h.len
 have HU := hid h
 have HBD := hid hbd
 have HL := hid hl
 have HR := hid hr
 have HT := hid hst
 have CQ := hid hcq
 clear h hbd hl hr hst hcq
 by_cases hbig : m > mid
 ·have e27 : decide ((mid : Int) < (m : Int)) = true := decide_eq_true (by omega)
  obtain ⟨s0, hs0⟩ : ∃ s, mid + m - b = s := ⟨_, rfl⟩
  have wst : (nn : Int) - (b : Int) = (s0 : Int) := by omega
  have H0 := hid (show m > mid ∧ s0 = mid + m - b ∧ mid = mid ∨ m ≤ mid ∧ s0 = a ∧ mid = m from .inl ⟨hbig, hs0.symm, rfl⟩)
  have sr : s0 ≤ mid := by omega
  have bs : a ≤ s0 ∧ mid ≤ m ∧ mid ≤ mid ∧ mid + m - s0 ≤ b := by omega
  go_enter Tryz.func127, Tryz.ntmps127
  go_upto_region 25 with fail
  try rw [midI]
  go_upto_region 33 with fail
  go_loopw [20, 21] (fun sv rv wr => ∃ s rr : Nat, sv = .int .i64 s ∧ rv = .int .i64 rr ∧ s0 ≤ s ∧ s ≤ rr ∧ rr ≤ mid ∧ Hid (Uz wr g n l0) ∧ Hid (Kp (fun b => b = g) w0 wr) ∧ Hid (s = s0 ∨ lt r (gd l0 (s - 1)) (gd l0 (mid + m - s))) ∧ Hid (rr = mid ∨ lt r (gd l0 (mid + m - rr - 1)) (gd l0 rr))) (fun sv rv _ => (intOf rv - intOf sv).toNat)
  case atStart => exact ⟨s0, mid, by (first | rfl | (congr 1; omega)), by (first | rfl | (congr 1; omega)), Nat.le_refl _, sr, Nat.le_refl _, HU, Kp.refl _ _, .inl rfl, .inl rfl⟩
  case round =>
   obtain ⟨i, j, rfl, rfl, i0, ij, j1, U1, K1, HA, HB⟩ := hrel
   by_cases hlt : i < j
   ·have il : (i : Int) < (j : Int) := by omega
    obtain ⟨c, hh⟩ : ∃ h, (i + j) / 2 = h := ⟨_, rfl⟩
    have hI : ((i : Int) + (j : Int)) / 2 = (c : Int) := by omega
    have c0 : i ≤ c := by omega
    have c1 : c < j := by omega
    obtain ⟨q, hq⟩ : ∃ q, mid + m - 1 - c = q := ⟨_, rfl⟩
    have wq : (pp : Int) - (c : Int) = (q : Int) := by omega
    have q0 : m ≤ q := by have := H0.out; omega
    have q1 : q < b := by have := H0.out; omega
    have hbd9 : ∀ x, x < n → 0 ≤ gd l0 x ∧ gd l0 x < (N : Int) := fun x hx => HBD.out _ (gd_mem (by rw [HLN.out]; exact hx))
    have HP := hid (show (r (gd l0 c) < r (gd l0 q) → lt r (gd l0 (mid + m - c - 1)) (gd l0 c)) ∧ (¬ r (gd l0 c) < r (gd l0 q) → lt r (gd l0 (c + 1 - 1)) (gd l0 (mid + m - (c + 1)))) from by
     rw [show mid + m - c - 1 = q by omega, show mid + m - (c + 1) = q by omega, show c + 1 - 1 = c by omega]
     exact ⟨fun e => .inl e, fun e => no_lt e (HT.out c q (by omega) (by omega) q0 q1)⟩)
    have HHJ := hid (show s0 ≤ c ∧ i ≤ c ∧ c < j ∧ j ≤ mid from ⟨by omega, by omega, by omega, by omega⟩)
    have wh : IntKind.i64.wrap ((c : Int) + 1) = ((c + 1 : Nat) : Int) := by rw [IntKind.wrap_i64]; omega
    obtain ⟨PA, hPA⟩ : ∃ P : Prop, lt r (gd l0 (mid + m - c - 1)) (gd l0 c) = P := ⟨_, rfl⟩
    obtain ⟨PB, hPB⟩ : ∃ P : Prop, lt r (gd l0 (c + 1 - 1)) (gd l0 (mid + m - (c + 1))) = P := ⟨_, rfl⟩
    rw [hPA, hPB] at HP
    obtain ⟨x0, x1⟩ := hbd9 q (by omega)
    obtain ⟨y0, y1⟩ := hbd9 c (by omega)
    have C1 := hid (CQ.out wr K1.out _ _ x0 x1 y0 y1)
    obtain ⟨vx, hvx⟩ : ∃ v, gd l0 q = v := ⟨_, rfl⟩
    have cx : wr.cell? ⟨g, q, none⟩ = some (.int .i64 vx) := by rw [← hvx]; exact U1.out.cell (by omega)
    obtain ⟨vy, hvy⟩ : ∃ v, gd l0 c = v := ⟨_, rfl⟩
    have cy : wr.cell? ⟨g, c, none⟩ = some (.int .i64 vy) := by rw [← hvy]; exact U1.out.cell (by omega)
    rw [hvx, hvy] at C1 HP
    have c0' : (0 : Int) ≤ (c : Int) := by omega
    have c2 : (c : Int) < (n : Int) := by omega
    have q0' : (0 : Int) ≤ (q : Int) := by omega
    have q2 : (q : Int) < (n : Int) := by omega
    clear x0 x1 y0 y1 hvx hvy hbd9
    go_upto_region 35 with fail
    try rw [hI]
    go_quiet (first | (go_at_call 110; with_reducible exact Calls.quiet_of (C1.out _)))
    rw [cm_neg]
    have U1 := hid (U1.out.same (w' := wr.drewN nq) rfl)
    have K1 := hid (K1.out.trans (Kp.drewN _ wr nq) (fun _ _ e => e))
    obtain ⟨V, hV⟩ : ∃ U, wr.drewN nq = U := ⟨_, rfl⟩
    rw [hV] at U1 K1 ⊢
    clear hV
    cases hb : decide (r vy < r vx) with
    | true =>
     have HQ := hid (show j = mid ∨ lt r (gd l0 (mid + m - c - 1)) (gd l0 c) from by rw [hPA]; exact .inr (HP.out.1 (of_decide_eq_true hb)))
     have HQ2 := hid (show c = mid ∨ lt r (gd l0 (mid + m - c - 1)) (gd l0 c) from by rw [hPA]; exact .inr (HP.out.1 (of_decide_eq_true hb)))
     clear hb cx cy HP C1 hPA hPB hI hh
     go_wp2
     go_roundw
     case rel => exact ⟨i, c, rfl, by go_num, i0, by have := HHJ.out; omega, by have := HHJ.out; omega, U1, K1, HA, HQ2⟩
     case measure => have := HHJ.out; simp [intOf]; omega
    | false =>
     have HQ := hid (show c + 1 = s0 ∨ lt r (gd l0 (c + 1 - 1)) (gd l0 (mid + m - (c + 1))) from by rw [hPB]; exact .inr (HP.out.2 (of_decide_eq_false hb)))
     clear hb cx cy HP C1 hPA hPB hI hh
     go_wp2
     go_roundw
     case rel => exact ⟨c + 1, j, by go_num, rfl, by have := HHJ.out; omega, by have := HHJ.out; omega, j1, U1, K1, HQ, HB⟩
     case measure => have := HHJ.out; simp [intOf]; omega
   ·have eij : j = i := by omega
    subst eij
    have HC := hid (cut_of (s0 := s0) (r0 := mid) am mb hmid.symm (.inl ⟨hbig, hs0.symm, rfl⟩) i0 j1 HL.out HR.out HA.out HB.out)
    obtain ⟨e, he⟩ : ∃ e, mid + m - j = e := ⟨_, rfl⟩
    have we : (nn : Int) - (j : Int) = (e : Int) := by omega
    rw [he] at HC
    obtain ⟨sa, sm, me, eb, _, _⟩ := id HC.out
    have sem : j + e = mid + m := by omega
    have HRT := hid (HC.out.rot sem HL.out HR.out HT.out)
    have jm : j ≤ mid := by omega
    have mide : mid ≤ e := by omega
    clear HA HB HC H0
    by_cases hr1 : j < m
    ·by_cases hr2 : m < e
     ·have d1 : decide ((j : Int) < (m : Int)) = true := decide_eq_true (by omega)
      have d2 : decide ((m : Int) < (e : Int)) = true := decide_eq_true (by omega)
      have CR := hid (rot_any g cap n B l0 j m e wr U1.out (by omega) (by omega) (by omega) hn)
      go_upto_region 41 with (go_at_call 128; with_reducible refine CR.out.mono ?_; rintro ee W1 ⟨rfl, z1⟩; have HZ := hid z1; clear z1)
      obtain ⟨l1, ⟨p1, e1⟩, u1, k1⟩ := HZ.out
      have P1 := hid p1
      have U2 := hid u1
      have K2 := hid (K1.out.trans k1 (fun _ _ e => e))
      have HR1 := hid HRT.out
      rw [← e1] at HR1
      clear p1 u1 k1 e1 HZ CR d1 d2
      by_cases hl1 : a < j
      ·by_cases hl2 : j < mid
       ·have d1 : decide ((a : Int) < (j : Int)) = true := decide_eq_true (by omega)
        have d2 : decide ((j : Int) < (mid : Int)) = true := decide_eq_true (by omega)
        have CL := hid (ih l1 a j mid W1 (by omega) U2.out (by omega) (by omega) (by omega) (fun x hx => HBD.out x (P1.out.mem_iff.1 hx)) HR1.out.1 HR1.out.2.1 HR1.out.2.2.1 (CQ.out.on K2.out))
        go_upto_region 43 with (go_at_call 127; with_reducible refine CL.out.mono ?_; rintro ee W2 ⟨rfl, z1⟩; have HZ2 := hid z1; clear z1)
        obtain ⟨l2, ⟨p2, g2, s2⟩, u2, k2⟩ := HZ2.out
        have P2 := hid (p2.trans P1.out)
        have U3 := hid u2
        have K3 := hid (K2.out.trans k2 (fun _ _ e => e))
        have G2 := hid g2
        have S2 := hid s2
        clear p2 u2 k2 g2 s2 HZ2 CL d1 d2
        have R1 := hid (HR1.out.2.2.2.1.congr (f' := gd l2) (fun x x1 x2 => G2.out.out x (.inr x1)))
        have R2 := hid (HR1.out.2.2.2.2.1.congr (f' := gd l2) (fun x x1 x2 => G2.out.out x (.inr (by omega))))
        have R3 := hid (show Stb r (gd l2) mid e b from fun x y x1 x2 y1 y2 => by rw [G2.out.out x (.inr x1), G2.out.out y (.inr (by omega))]; exact HR1.out.2.2.2.2.2.1 x y x1 x2 y1 y2)
        by_cases hx1 : mid < e
        ·have d1 : decide ((mid : Int) < (e : Int)) = true := decide_eq_true (by omega)
         by_cases hx2 : e < b
         ·have d2 : decide ((e : Int) < (b : Int)) = true := decide_eq_true (by omega)
          have CL := hid (ih l2 mid e b W2 (by omega) U3.out (by omega) (by omega) (by omega) (fun x hx => HBD.out x (P2.out.mem_iff.1 hx)) R1.out R2.out R3.out (CQ.out.on K3.out))
          go_wp2_with (go_at_call 127; with_reducible refine CL.out.mono ?_; rintro ee W3 ⟨rfl, z1⟩; have HZ3 := hid z1; clear z1)
          go_end0
          obtain ⟨l3, ⟨p3, g3, s3⟩, u3, k3⟩ := HZ3.out
          obtain ⟨f1, f2⟩ := sym_fin (by omega) (by omega) HR1.out.2.2.2.2.2.2.1 HR1.out.2.2.2.2.2.2.2 G2.out S2.out g3 s3
          exact ⟨rfl, l3, ⟨p3.trans P2.out, f1, f2⟩, u3, K3.out.trans k3 (fun _ _ e => e)⟩
         ·have d2 : decide ((e : Int) < (b : Int)) = false := decide_eq_false (by omega)
          have S3 := hid (srt_no R1.out R2.out (by omega) mide eb)
          go_wp2
          go_end0
          obtain ⟨f1, f2⟩ := sym_fin (by omega) (by omega) HR1.out.2.2.2.2.2.2.1 HR1.out.2.2.2.2.2.2.2 G2.out S2.out (Seg.refl _ _ _) S3.out
          exact ⟨rfl, l2, ⟨P2.out, f1, f2⟩, U3.out, K3.out⟩
        ·have d1 : decide ((mid : Int) < (e : Int)) = false := decide_eq_false (by omega)
         have S3 := hid (srt_no R1.out R2.out (by omega) mide eb)
         go_wp2
         go_end0
         obtain ⟨f1, f2⟩ := sym_fin (by omega) (by omega) HR1.out.2.2.2.2.2.2.1 HR1.out.2.2.2.2.2.2.2 G2.out S2.out (Seg.refl _ _ _) S3.out
         exact ⟨rfl, l2, ⟨P2.out, f1, f2⟩, U3.out, K3.out⟩
       ·have d1 : decide ((a : Int) < (j : Int)) = true := decide_eq_true (by omega)
        have d2 : decide ((j : Int) < (mid : Int)) = false := decide_eq_false (by omega)
        have S2 := hid (srt_no HR1.out.1 HR1.out.2.1 (by omega) sa jm)
        go_upto_region 43 with fail
        obtain ⟨l2, hl2⟩ : ∃ l, l = l1 := ⟨_, rfl⟩
        have P2 := hid (show l2.Perm l0 from by rw [hl2]; exact P1.out)
        have U3 := hid (show Uz W1 g n l2 from by rw [hl2]; exact U2.out)
        have K3 := hid K2.out
        have G2 := hid (show Seg (gd l1) (gd l2) a mid from by rw [hl2]; exact Seg.refl _ _ _)
        rw [← hl2] at S2
        clear hl2 d1 d2
        have R1 := hid (HR1.out.2.2.2.1.congr (f' := gd l2) (fun x x1 x2 => G2.out.out x (.inr x1)))
        have R2 := hid (HR1.out.2.2.2.2.1.congr (f' := gd l2) (fun x x1 x2 => G2.out.out x (.inr (by omega))))
        have R3 := hid (show Stb r (gd l2) mid e b from fun x y x1 x2 y1 y2 => by rw [G2.out.out x (.inr x1), G2.out.out y (.inr (by omega))]; exact HR1.out.2.2.2.2.2.1 x y x1 x2 y1 y2)
        by_cases hx1 : mid < e
        ·have d1 : decide ((mid : Int) < (e : Int)) = true := decide_eq_true (by omega)
         by_cases hx2 : e < b
         ·have d2 : decide ((e : Int) < (b : Int)) = true := decide_eq_true (by omega)
          have CL := hid (ih l2 mid e b W1 (by omega) U3.out (by omega) (by omega) (by omega) (fun x hx => HBD.out x (P2.out.mem_iff.1 hx)) R1.out R2.out R3.out (CQ.out.on K3.out))
          go_wp2_with (go_at_call 127; with_reducible refine CL.out.mono ?_; rintro ee W3 ⟨rfl, z1⟩; have HZ3 := hid z1; clear z1)
          go_end0
          obtain ⟨l3, ⟨p3, g3, s3⟩, u3, k3⟩ := HZ3.out
          obtain ⟨f1, f2⟩ := sym_fin (by omega) (by omega) HR1.out.2.2.2.2.2.2.1 HR1.out.2.2.2.2.2.2.2 G2.out S2.out g3 s3
          exact ⟨rfl, l3, ⟨p3.trans P2.out, f1, f2⟩, u3, K3.out.trans k3 (fun _ _ e => e)⟩
         ·have d2 : decide ((e : Int) < (b : Int)) = false := decide_eq_false (by omega)
          have S3 := hid (srt_no R1.out R2.out (by omega) mide eb)
          go_wp2
          go_end0
          obtain ⟨f1, f2⟩ := sym_fin (by omega) (by omega) HR1.out.2.2.2.2.2.2.1 HR1.out.2.2.2.2.2.2.2 G2.out S2.out (Seg.refl _ _ _) S3.out
          exact ⟨rfl, l2, ⟨P2.out, f1, f2⟩, U3.out, K3.out⟩
        ·have d1 : decide ((mid : Int) < (e : Int)) = false := decide_eq_false (by omega)
         have S3 := hid (srt_no R1.out R2.out (by omega) mide eb)
         go_wp2
         go_end0
         obtain ⟨f1, f2⟩ := sym_fin (by omega) (by omega) HR1.out.2.2.2.2.2.2.1 HR1.out.2.2.2.2.2.2.2 G2.out S2.out (Seg.refl _ _ _) S3.out
         exact ⟨rfl, l2, ⟨P2.out, f1, f2⟩, U3.out, K3.out⟩
      ·have d1 : decide ((a : Int) < (j : Int)) = false := decide_eq_false (by omega)
       have S2 := hid (srt_no HR1.out.1 HR1.out.2.1 (by omega) sa jm)
       go_upto_region 43 with fail
       obtain ⟨l2, hl2⟩ : ∃ l, l = l1 := ⟨_, rfl⟩
       have P2 := hid (show l2.Perm l0 from by rw [hl2]; exact P1.out)
       have U3 := hid (show Uz W1 g n l2 from by rw [hl2]; exact U2.out)
       have K3 := hid K2.out
       have G2 := hid (show Seg (gd l1) (gd l2) a mid from by rw [hl2]; exact Seg.refl _ _ _)
       rw [← hl2] at S2
       clear hl2 d1
       have R1 := hid (HR1.out.2.2.2.1.congr (f' := gd l2) (fun x x1 x2 => G2.out.out x (.inr x1)))
       have R2 := hid (HR1.out.2.2.2.2.1.congr (f' := gd l2) (fun x x1 x2 => G2.out.out x (.inr (by omega))))
       have R3 := hid (show Stb r (gd l2) mid e b from fun x y x1 x2 y1 y2 => by rw [G2.out.out x (.inr x1), G2.out.out y (.inr (by omega))]; exact HR1.out.2.2.2.2.2.1 x y x1 x2 y1 y2)
       by_cases hx1 : mid < e
       ·have d1 : decide ((mid : Int) < (e : Int)) = true := decide_eq_true (by omega)
        by_cases hx2 : e < b
        ·have d2 : decide ((e : Int) < (b : Int)) = true := decide_eq_true (by omega)
         have CL := hid (ih l2 mid e b W1 (by omega) U3.out (by omega) (by omega) (by omega) (fun x hx => HBD.out x (P2.out.mem_iff.1 hx)) R1.out R2.out R3.out (CQ.out.on K3.out))
         go_wp2_with (go_at_call 127; with_reducible refine CL.out.mono ?_; rintro ee W3 ⟨rfl, z1⟩; have HZ3 := hid z1; clear z1)
         go_end0
         obtain ⟨l3, ⟨p3, g3, s3⟩, u3, k3⟩ := HZ3.out
         obtain ⟨f1, f2⟩ := sym_fin (by omega) (by omega) HR1.out.2.2.2.2.2.2.1 HR1.out.2.2.2.2.2.2.2 G2.out S2.out g3 s3
         exact ⟨rfl, l3, ⟨p3.trans P2.out, f1, f2⟩, u3, K3.out.trans k3 (fun _ _ e => e)⟩
        ·have d2 : decide ((e : Int) < (b : Int)) = false := decide_eq_false (by omega)
         have S3 := hid (srt_no R1.out R2.out (by omega) mide eb)
         go_wp2
         go_end0
         obtain ⟨f1, f2⟩ := sym_fin (by omega) (by omega) HR1.out.2.2.2.2.2.2.1 HR1.out.2.2.2.2.2.2.2 G2.out S2.out (Seg.refl _ _ _) S3.out
         exact ⟨rfl, l2, ⟨P2.out, f1, f2⟩, U3.out, K3.out⟩
       ·have d1 : decide ((mid : Int) < (e : Int)) = false := decide_eq_false (by omega)
        have S3 := hid (srt_no R1.out R2.out (by omega) mide eb)
        go_wp2
        go_end0
        obtain ⟨f1, f2⟩ := sym_fin (by omega) (by omega) HR1.out.2.2.2.2.2.2.1 HR1.out.2.2.2.2.2.2.2 G2.out S2.out (Seg.refl _ _ _) S3.out
        exact ⟨rfl, l2, ⟨P2.out, f1, f2⟩, U3.out, K3.out⟩
     ·have hno : j = m ∨ e = m := by omega
      have d1 : decide ((j : Int) < (m : Int)) = true := decide_eq_true (by omega)
      have d2 : decide ((m : Int) < (e : Int)) = false := decide_eq_false (by omega)
      go_upto_region 41 with fail
      have e1 := rot_id (f := gd l0) hno sm me
      obtain ⟨l1, hl1⟩ : ∃ l, l = l0 := ⟨_, rfl⟩
      have P1 := hid (show l1.Perm l0 from by rw [hl1])
      have U2 := hid (show Uz wr g n l1 from by rw [hl1]; exact U1.out)
      have K2 := hid K1.out
      have HR1 := hid HRT.out
      have e9 : gd l1 = rot (gd l0) j m e := by rw [hl1]; exact e1
      rw [← e9] at HR1
      clear hl1 e1 e9 d1 hno d2
      by_cases hl1 : a < j
      ·by_cases hl2 : j < mid
       ·have d1 : decide ((a : Int) < (j : Int)) = true := decide_eq_true (by omega)
        have d2 : decide ((j : Int) < (mid : Int)) = true := decide_eq_true (by omega)
        have CL := hid (ih l1 a j mid wr (by omega) U2.out (by omega) (by omega) (by omega) (fun x hx => HBD.out x (P1.out.mem_iff.1 hx)) HR1.out.1 HR1.out.2.1 HR1.out.2.2.1 (CQ.out.on K2.out))
        go_upto_region 43 with (go_at_call 127; with_reducible refine CL.out.mono ?_; rintro ee W2 ⟨rfl, z1⟩; have HZ2 := hid z1; clear z1)
        obtain ⟨l2, ⟨p2, g2, s2⟩, u2, k2⟩ := HZ2.out
        have P2 := hid (p2.trans P1.out)
        have U3 := hid u2
        have K3 := hid (K2.out.trans k2 (fun _ _ e => e))
        have G2 := hid g2
        have S2 := hid s2
        clear p2 u2 k2 g2 s2 HZ2 CL d1 d2
        have R1 := hid (HR1.out.2.2.2.1.congr (f' := gd l2) (fun x x1 x2 => G2.out.out x (.inr x1)))
        have R2 := hid (HR1.out.2.2.2.2.1.congr (f' := gd l2) (fun x x1 x2 => G2.out.out x (.inr (by omega))))
        have R3 := hid (show Stb r (gd l2) mid e b from fun x y x1 x2 y1 y2 => by rw [G2.out.out x (.inr x1), G2.out.out y (.inr (by omega))]; exact HR1.out.2.2.2.2.2.1 x y x1 x2 y1 y2)
        by_cases hx1 : mid < e
        ·have d1 : decide ((mid : Int) < (e : Int)) = true := decide_eq_true (by omega)
         by_cases hx2 : e < b
         ·have d2 : decide ((e : Int) < (b : Int)) = true := decide_eq_true (by omega)
          have CL := hid (ih l2 mid e b W2 (by omega) U3.out (by omega) (by omega) (by omega) (fun x hx => HBD.out x (P2.out.mem_iff.1 hx)) R1.out R2.out R3.out (CQ.out.on K3.out))
          go_wp2_with (go_at_call 127; with_reducible refine CL.out.mono ?_; rintro ee W3 ⟨rfl, z1⟩; have HZ3 := hid z1; clear z1)
          go_end0
          obtain ⟨l3, ⟨p3, g3, s3⟩, u3, k3⟩ := HZ3.out
          obtain ⟨f1, f2⟩ := sym_fin (by omega) (by omega) HR1.out.2.2.2.2.2.2.1 HR1.out.2.2.2.2.2.2.2 G2.out S2.out g3 s3
          exact ⟨rfl, l3, ⟨p3.trans P2.out, f1, f2⟩, u3, K3.out.trans k3 (fun _ _ e => e)⟩
         ·have d2 : decide ((e : Int) < (b : Int)) = false := decide_eq_false (by omega)
          have S3 := hid (srt_no R1.out R2.out (by omega) mide eb)
          go_wp2
          go_end0
          obtain ⟨f1, f2⟩ := sym_fin (by omega) (by omega) HR1.out.2.2.2.2.2.2.1 HR1.out.2.2.2.2.2.2.2 G2.out S2.out (Seg.refl _ _ _) S3.out
          exact ⟨rfl, l2, ⟨P2.out, f1, f2⟩, U3.out, K3.out⟩
        ·have d1 : decide ((mid : Int) < (e : Int)) = false := decide_eq_false (by omega)
         have S3 := hid (srt_no R1.out R2.out (by omega) mide eb)
         go_wp2
         go_end0
         obtain ⟨f1, f2⟩ := sym_fin (by omega) (by omega) HR1.out.2.2.2.2.2.2.1 HR1.out.2.2.2.2.2.2.2 G2.out S2.out (Seg.refl _ _ _) S3.out
         exact ⟨rfl, l2, ⟨P2.out, f1, f2⟩, U3.out, K3.out⟩
       ·have d1 : decide ((a : Int) < (j : Int)) = true := decide_eq_true (by omega)
        have d2 : decide ((j : Int) < (mid : Int)) = false := decide_eq_false (by omega)
        have S2 := hid (srt_no HR1.out.1 HR1.out.2.1 (by omega) sa jm)
        go_upto_region 43 with fail
        obtain ⟨l2, hl2⟩ : ∃ l, l = l1 := ⟨_, rfl⟩
        have P2 := hid (show l2.Perm l0 from by rw [hl2]; exact P1.out)
        have U3 := hid (show Uz wr g n l2 from by rw [hl2]; exact U2.out)
        have K3 := hid K2.out
        have G2 := hid (show Seg (gd l1) (gd l2) a mid from by rw [hl2]; exact Seg.refl _ _ _)
        rw [← hl2] at S2
        clear hl2 d1 d2
        have R1 := hid (HR1.out.2.2.2.1.congr (f' := gd l2) (fun x x1 x2 => G2.out.out x (.inr x1)))
        have R2 := hid (HR1.out.2.2.2.2.1.congr (f' := gd l2) (fun x x1 x2 => G2.out.out x (.inr (by omega))))
        have R3 := hid (show Stb r (gd l2) mid e b from fun x y x1 x2 y1 y2 => by rw [G2.out.out x (.inr x1), G2.out.out y (.inr (by omega))]; exact HR1.out.2.2.2.2.2.1 x y x1 x2 y1 y2)
        by_cases hx1 : mid < e
        ·have d1 : decide ((mid : Int) < (e : Int)) = true := decide_eq_true (by omega)
         by_cases hx2 : e < b
         ·have d2 : decide ((e : Int) < (b : Int)) = true := decide_eq_true (by omega)
          have CL := hid (ih l2 mid e b wr (by omega) U3.out (by omega) (by omega) (by omega) (fun x hx => HBD.out x (P2.out.mem_iff.1 hx)) R1.out R2.out R3.out (CQ.out.on K3.out))
          go_wp2_with (go_at_call 127; with_reducible refine CL.out.mono ?_; rintro ee W3 ⟨rfl, z1⟩; have HZ3 := hid z1; clear z1)
          go_end0
          obtain ⟨l3, ⟨p3, g3, s3⟩, u3, k3⟩ := HZ3.out
          obtain ⟨f1, f2⟩ := sym_fin (by omega) (by omega) HR1.out.2.2.2.2.2.2.1 HR1.out.2.2.2.2.2.2.2 G2.out S2.out g3 s3
          exact ⟨rfl, l3, ⟨p3.trans P2.out, f1, f2⟩, u3, K3.out.trans k3 (fun _ _ e => e)⟩
         ·have d2 : decide ((e : Int) < (b : Int)) = false := decide_eq_false (by omega)
          have S3 := hid (srt_no R1.out R2.out (by omega) mide eb)
          go_wp2
          go_end0
          obtain ⟨f1, f2⟩ := sym_fin (by omega) (by omega) HR1.out.2.2.2.2.2.2.1 HR1.out.2.2.2.2.2.2.2 G2.out S2.out (Seg.refl _ _ _) S3.out
          exact ⟨rfl, l2, ⟨P2.out, f1, f2⟩, U3.out, K3.out⟩
        ·have d1 : decide ((mid : Int) < (e : Int)) = false := decide_eq_false (by omega)
         have S3 := hid (srt_no R1.out R2.out (by omega) mide eb)
         go_wp2
         go_end0
         obtain ⟨f1, f2⟩ := sym_fin (by omega) (by omega) HR1.out.2.2.2.2.2.2.1 HR1.out.2.2.2.2.2.2.2 G2.out S2.out (Seg.refl _ _ _) S3.out
         exact ⟨rfl, l2, ⟨P2.out, f1, f2⟩, U3.out, K3.out⟩
      ·have d1 : decide ((a : Int) < (j : Int)) = false := decide_eq_false (by omega)
       have S2 := hid (srt_no HR1.out.1 HR1.out.2.1 (by omega) sa jm)
       go_upto_region 43 with fail
       obtain ⟨l2, hl2⟩ : ∃ l, l = l1 := ⟨_, rfl⟩
       have P2 := hid (show l2.Perm l0 from by rw [hl2]; exact P1.out)
       have U3 := hid (show Uz wr g n l2 from by rw [hl2]; exact U2.out)
       have K3 := hid K2.out
       have G2 := hid (show Seg (gd l1) (gd l2) a mid from by rw [hl2]; exact Seg.refl _ _ _)
       rw [← hl2] at S2
       clear hl2 d1
       have R1 := hid (HR1.out.2.2.2.1.congr (f' := gd l2) (fun x x1 x2 => G2.out.out x (.inr x1)))
       have R2 := hid (HR1.out.2.2.2.2.1.congr (f' := gd l2) (fun x x1 x2 => G2.out.out x (.inr (by omega))))
       have R3 := hid (show Stb r (gd l2) mid e b from fun x y x1 x2 y1 y2 => by rw [G2.out.out x (.inr x1), G2.out.out y (.inr (by omega))]; exact HR1.out.2.2.2.2.2.1 x y x1 x2 y1 y2)
       by_cases hx1 : mid < e
       ·have d1 : decide ((mid : Int) < (e : Int)) = true := decide_eq_true (by omega)
        by_cases hx2 : e < b
        ·have d2 : decide ((e : Int) < (b : Int)) = true := decide_eq_true (by omega)
         have CL := hid (ih l2 mid e b wr (by omega) U3.out (by omega) (by omega) (by omega) (fun x hx => HBD.out x (P2.out.mem_iff.1 hx)) R1.out R2.out R3.out (CQ.out.on K3.out))
         go_wp2_with (go_at_call 127; with_reducible refine CL.out.mono ?_; rintro ee W3 ⟨rfl, z1⟩; have HZ3 := hid z1; clear z1)
         go_end0
         obtain ⟨l3, ⟨p3, g3, s3⟩, u3, k3⟩ := HZ3.out
         obtain ⟨f1, f2⟩ := sym_fin (by omega) (by omega) HR1.out.2.2.2.2.2.2.1 HR1.out.2.2.2.2.2.2.2 G2.out S2.out g3 s3
         exact ⟨rfl, l3, ⟨p3.trans P2.out, f1, f2⟩, u3, K3.out.trans k3 (fun _ _ e => e)⟩
        ·have d2 : decide ((e : Int) < (b : Int)) = false := decide_eq_false (by omega)
         have S3 := hid (srt_no R1.out R2.out (by omega) mide eb)
         go_wp2
         go_end0
         obtain ⟨f1, f2⟩ := sym_fin (by omega) (by omega) HR1.out.2.2.2.2.2.2.1 HR1.out.2.2.2.2.2.2.2 G2.out S2.out (Seg.refl _ _ _) S3.out
         exact ⟨rfl, l2, ⟨P2.out, f1, f2⟩, U3.out, K3.out⟩
       ·have d1 : decide ((mid : Int) < (e : Int)) = false := decide_eq_false (by omega)
        have S3 := hid (srt_no R1.out R2.out (by omega) mide eb)
        go_wp2
        go_end0
        obtain ⟨f1, f2⟩ := sym_fin (by omega) (by omega) HR1.out.2.2.2.2.2.2.1 HR1.out.2.2.2.2.2.2.2 G2.out S2.out (Seg.refl _ _ _) S3.out
        exact ⟨rfl, l2, ⟨P2.out, f1, f2⟩, U3.out, K3.out⟩
    ·have hno : j = m ∨ e = m := by omega
     have d1 : decide ((j : Int) < (m : Int)) = false := decide_eq_false (by omega)
     go_upto_region 41 with fail
     have e1 := rot_id (f := gd l0) hno sm me
     obtain ⟨l1, hl1⟩ : ∃ l, l = l0 := ⟨_, rfl⟩
     have P1 := hid (show l1.Perm l0 from by rw [hl1])
     have U2 := hid (show Uz wr g n l1 from by rw [hl1]; exact U1.out)
     have K2 := hid K1.out
     have HR1 := hid HRT.out
     have e9 : gd l1 = rot (gd l0) j m e := by rw [hl1]; exact e1
     rw [← e9] at HR1
     clear hl1 e1 e9 d1 hno
     by_cases hl1 : a < j
     ·by_cases hl2 : j < mid
      ·have d1 : decide ((a : Int) < (j : Int)) = true := decide_eq_true (by omega)
       have d2 : decide ((j : Int) < (mid : Int)) = true := decide_eq_true (by omega)
       have CL := hid (ih l1 a j mid wr (by omega) U2.out (by omega) (by omega) (by omega) (fun x hx => HBD.out x (P1.out.mem_iff.1 hx)) HR1.out.1 HR1.out.2.1 HR1.out.2.2.1 (CQ.out.on K2.out))
       go_upto_region 43 with (go_at_call 127; with_reducible refine CL.out.mono ?_; rintro ee W2 ⟨rfl, z1⟩; have HZ2 := hid z1; clear z1)
       obtain ⟨l2, ⟨p2, g2, s2⟩, u2, k2⟩ := HZ2.out
       have P2 := hid (p2.trans P1.out)
       have U3 := hid u2
       have K3 := hid (K2.out.trans k2 (fun _ _ e => e))
       have G2 := hid g2
       have S2 := hid s2
       clear p2 u2 k2 g2 s2 HZ2 CL d1 d2
       have R1 := hid (HR1.out.2.2.2.1.congr (f' := gd l2) (fun x x1 x2 => G2.out.out x (.inr x1)))
       have R2 := hid (HR1.out.2.2.2.2.1.congr (f' := gd l2) (fun x x1 x2 => G2.out.out x (.inr (by omega))))
       have R3 := hid (show Stb r (gd l2) mid e b from fun x y x1 x2 y1 y2 => by rw [G2.out.out x (.inr x1), G2.out.out y (.inr (by omega))]; exact HR1.out.2.2.2.2.2.1 x y x1 x2 y1 y2)
       by_cases hx1 : mid < e
       ·have d1 : decide ((mid : Int) < (e : Int)) = true := decide_eq_true (by omega)
        by_cases hx2 : e < b
        ·have d2 : decide ((e : Int) < (b : Int)) = true := decide_eq_true (by omega)
         have CL := hid (ih l2 mid e b W2 (by omega) U3.out (by omega) (by omega) (by omega) (fun x hx => HBD.out x (P2.out.mem_iff.1 hx)) R1.out R2.out R3.out (CQ.out.on K3.out))
         go_wp2_with (go_at_call 127; with_reducible refine CL.out.mono ?_; rintro ee W3 ⟨rfl, z1⟩; have HZ3 := hid z1; clear z1)
         go_end0
         obtain ⟨l3, ⟨p3, g3, s3⟩, u3, k3⟩ := HZ3.out
         obtain ⟨f1, f2⟩ := sym_fin (by omega) (by omega) HR1.out.2.2.2.2.2.2.1 HR1.out.2.2.2.2.2.2.2 G2.out S2.out g3 s3
         exact ⟨rfl, l3, ⟨p3.trans P2.out, f1, f2⟩, u3, K3.out.trans k3 (fun _ _ e => e)⟩
        ·have d2 : decide ((e : Int) < (b : Int)) = false := decide_eq_false (by omega)
         have S3 := hid (srt_no R1.out R2.out (by omega) mide eb)
         go_wp2
         go_end0
         obtain ⟨f1, f2⟩ := sym_fin (by omega) (by omega) HR1.out.2.2.2.2.2.2.1 HR1.out.2.2.2.2.2.2.2 G2.out S2.out (Seg.refl _ _ _) S3.out
         exact ⟨rfl, l2, ⟨P2.out, f1, f2⟩, U3.out, K3.out⟩
       ·have d1 : decide ((mid : Int) < (e : Int)) = false := decide_eq_false (by omega)
        have S3 := hid (srt_no R1.out R2.out (by omega) mide eb)
        go_wp2
        go_end0
        obtain ⟨f1, f2⟩ := sym_fin (by omega) (by omega) HR1.out.2.2.2.2.2.2.1 HR1.out.2.2.2.2.2.2.2 G2.out S2.out (Seg.refl _ _ _) S3.out
        exact ⟨rfl, l2, ⟨P2.out, f1, f2⟩, U3.out, K3.out⟩
      ·have d1 : decide ((a : Int) < (j : Int)) = true := decide_eq_true (by omega)
       have d2 : decide ((j : Int) < (mid : Int)) = false := decide_eq_false (by omega)
       have S2 := hid (srt_no HR1.out.1 HR1.out.2.1 (by omega) sa jm)
       go_upto_region 43 with fail
       obtain ⟨l2, hl2⟩ : ∃ l, l = l1 := ⟨_, rfl⟩
       have P2 := hid (show l2.Perm l0 from by rw [hl2]; exact P1.out)
       have U3 := hid (show Uz wr g n l2 from by rw [hl2]; exact U2.out)
       have K3 := hid K2.out
       have G2 := hid (show Seg (gd l1) (gd l2) a mid from by rw [hl2]; exact Seg.refl _ _ _)
       rw [← hl2] at S2
       clear hl2 d1 d2
       have R1 := hid (HR1.out.2.2.2.1.congr (f' := gd l2) (fun x x1 x2 => G2.out.out x (.inr x1)))
       have R2 := hid (HR1.out.2.2.2.2.1.congr (f' := gd l2) (fun x x1 x2 => G2.out.out x (.inr (by omega))))
       have R3 := hid (show Stb r (gd l2) mid e b from fun x y x1 x2 y1 y2 => by rw [G2.out.out x (.inr x1), G2.out.out y (.inr (by omega))]; exact HR1.out.2.2.2.2.2.1 x y x1 x2 y1 y2)
       by_cases hx1 : mid < e
       ·have d1 : decide ((mid : Int) < (e : Int)) = true := decide_eq_true (by omega)
        by_cases hx2 : e < b
        ·have d2 : decide ((e : Int) < (b : Int)) = true := decide_eq_true (by omega)
         have CL := hid (ih l2 mid e b wr (by omega) U3.out (by omega) (by omega) (by omega) (fun x hx => HBD.out x (P2.out.mem_iff.1 hx)) R1.out R2.out R3.out (CQ.out.on K3.out))
         go_wp2_with (go_at_call 127; with_reducible refine CL.out.mono ?_; rintro ee W3 ⟨rfl, z1⟩; have HZ3 := hid z1; clear z1)
         go_end0
         obtain ⟨l3, ⟨p3, g3, s3⟩, u3, k3⟩ := HZ3.out
         obtain ⟨f1, f2⟩ := sym_fin (by omega) (by omega) HR1.out.2.2.2.2.2.2.1 HR1.out.2.2.2.2.2.2.2 G2.out S2.out g3 s3
         exact ⟨rfl, l3, ⟨p3.trans P2.out, f1, f2⟩, u3, K3.out.trans k3 (fun _ _ e => e)⟩
        ·have d2 : decide ((e : Int) < (b : Int)) = false := decide_eq_false (by omega)
         have S3 := hid (srt_no R1.out R2.out (by omega) mide eb)
         go_wp2
         go_end0
         obtain ⟨f1, f2⟩ := sym_fin (by omega) (by omega) HR1.out.2.2.2.2.2.2.1 HR1.out.2.2.2.2.2.2.2 G2.out S2.out (Seg.refl _ _ _) S3.out
         exact ⟨rfl, l2, ⟨P2.out, f1, f2⟩, U3.out, K3.out⟩
       ·have d1 : decide ((mid : Int) < (e : Int)) = false := decide_eq_false (by omega)
        have S3 := hid (srt_no R1.out R2.out (by omega) mide eb)
        go_wp2
        go_end0
        obtain ⟨f1, f2⟩ := sym_fin (by omega) (by omega) HR1.out.2.2.2.2.2.2.1 HR1.out.2.2.2.2.2.2.2 G2.out S2.out (Seg.refl _ _ _) S3.out
        exact ⟨rfl, l2, ⟨P2.out, f1, f2⟩, U3.out, K3.out⟩
     ·have d1 : decide ((a : Int) < (j : Int)) = false := decide_eq_false (by omega)
      have S2 := hid (srt_no HR1.out.1 HR1.out.2.1 (by omega) sa jm)
      go_upto_region 43 with fail
      obtain ⟨l2, hl2⟩ : ∃ l, l = l1 := ⟨_, rfl⟩
      have P2 := hid (show l2.Perm l0 from by rw [hl2]; exact P1.out)
      have U3 := hid (show Uz wr g n l2 from by rw [hl2]; exact U2.out)
      have K3 := hid K2.out
      have G2 := hid (show Seg (gd l1) (gd l2) a mid from by rw [hl2]; exact Seg.refl _ _ _)
      rw [← hl2] at S2
      clear hl2 d1
      have R1 := hid (HR1.out.2.2.2.1.congr (f' := gd l2) (fun x x1 x2 => G2.out.out x (.inr x1)))
      have R2 := hid (HR1.out.2.2.2.2.1.congr (f' := gd l2) (fun x x1 x2 => G2.out.out x (.inr (by omega))))
      have R3 := hid (show Stb r (gd l2) mid e b from fun x y x1 x2 y1 y2 => by rw [G2.out.out x (.inr x1), G2.out.out y (.inr (by omega))]; exact HR1.out.2.2.2.2.2.1 x y x1 x2 y1 y2)
      by_cases hx1 : mid < e
      ·have d1 : decide ((mid : Int) < (e : Int)) = true := decide_eq_true (by omega)
       by_cases hx2 : e < b
       ·have d2 : decide ((e : Int) < (b : Int)) = true := decide_eq_true (by omega)
        have CL := hid (ih l2 mid e b wr (by omega) U3.out (by omega) (by omega) (by omega) (fun x hx => HBD.out x (P2.out.mem_iff.1 hx)) R1.out R2.out R3.out (CQ.out.on K3.out))
        go_wp2_with (go_at_call 127; with_reducible refine CL.out.mono ?_; rintro ee W3 ⟨rfl, z1⟩; have HZ3 := hid z1; clear z1)
        go_end0
        obtain ⟨l3, ⟨p3, g3, s3⟩, u3, k3⟩ := HZ3.out
        obtain ⟨f1, f2⟩ := sym_fin (by omega) (by omega) HR1.out.2.2.2.2.2.2.1 HR1.out.2.2.2.2.2.2.2 G2.out S2.out g3 s3
        exact ⟨rfl, l3, ⟨p3.trans P2.out, f1, f2⟩, u3, K3.out.trans k3 (fun _ _ e => e)⟩
       ·have d2 : decide ((e : Int) < (b : Int)) = false := decide_eq_false (by omega)
        have S3 := hid (srt_no R1.out R2.out (by omega) mide eb)
        go_wp2
        go_end0
        obtain ⟨f1, f2⟩ := sym_fin (by omega) (by omega) HR1.out.2.2.2.2.2.2.1 HR1.out.2.2.2.2.2.2.2 G2.out S2.out (Seg.refl _ _ _) S3.out
        exact ⟨rfl, l2, ⟨P2.out, f1, f2⟩, U3.out, K3.out⟩
      ·have d1 : decide ((mid : Int) < (e : Int)) = false := decide_eq_false (by omega)
       have S3 := hid (srt_no R1.out R2.out (by omega) mide eb)
       go_wp2
       go_end0
       obtain ⟨f1, f2⟩ := sym_fin (by omega) (by omega) HR1.out.2.2.2.2.2.2.1 HR1.out.2.2.2.2.2.2.2 G2.out S2.out (Seg.refl _ _ _) S3.out
       exact ⟨rfl, l2, ⟨P2.out, f1, f2⟩, U3.out, K3.out⟩
 ·have e27 : decide ((mid : Int) < (m : Int)) = false := decide_eq_false (by omega)
  have H0 := hid (show m > mid ∧ a = mid + m - b ∧ m = mid ∨ m ≤ mid ∧ a = a ∧ m = m from .inr ⟨by omega, rfl, rfl⟩)
  have sr : a ≤ m := by omega
  have bs : a ≤ a ∧ m ≤ m ∧ m ≤ mid ∧ mid + m - a ≤ b := by omega
  go_enter Tryz.func127, Tryz.ntmps127
  go_upto_region 25 with fail
  try rw [midI]
  go_upto_region 33 with fail
  go_loopw [20, 21] (fun sv rv wr => ∃ s rr : Nat, sv = .int .i64 s ∧ rv = .int .i64 rr ∧ a ≤ s ∧ s ≤ rr ∧ rr ≤ m ∧ Hid (Uz wr g n l0) ∧ Hid (Kp (fun b => b = g) w0 wr) ∧ Hid (s = a ∨ lt r (gd l0 (s - 1)) (gd l0 (mid + m - s))) ∧ Hid (rr = m ∨ lt r (gd l0 (mid + m - rr - 1)) (gd l0 rr))) (fun sv rv _ => (intOf rv - intOf sv).toNat)
  case atStart => exact ⟨a, m, by (first | rfl | (congr 1; omega)), by (first | rfl | (congr 1; omega)), Nat.le_refl _, sr, Nat.le_refl _, HU, Kp.refl _ _, .inl rfl, .inl rfl⟩
  case round =>
   obtain ⟨i, j, rfl, rfl, i0, ij, j1, U1, K1, HA, HB⟩ := hrel
   by_cases hlt : i < j
   ·have il : (i : Int) < (j : Int) := by omega
    obtain ⟨c, hh⟩ : ∃ h, (i + j) / 2 = h := ⟨_, rfl⟩
    have hI : ((i : Int) + (j : Int)) / 2 = (c : Int) := by omega
    have c0 : i ≤ c := by omega
    have c1 : c < j := by omega
    obtain ⟨q, hq⟩ : ∃ q, mid + m - 1 - c = q := ⟨_, rfl⟩
    have wq : (pp : Int) - (c : Int) = (q : Int) := by omega
    have q0 : m ≤ q := by have := H0.out; omega
    have q1 : q < b := by have := H0.out; omega
    have hbd9 : ∀ x, x < n → 0 ≤ gd l0 x ∧ gd l0 x < (N : Int) := fun x hx => HBD.out _ (gd_mem (by rw [HLN.out]; exact hx))
    have HP := hid (show (r (gd l0 c) < r (gd l0 q) → lt r (gd l0 (mid + m - c - 1)) (gd l0 c)) ∧ (¬ r (gd l0 c) < r (gd l0 q) → lt r (gd l0 (c + 1 - 1)) (gd l0 (mid + m - (c + 1)))) from by
     rw [show mid + m - c - 1 = q by omega, show mid + m - (c + 1) = q by omega, show c + 1 - 1 = c by omega]
     exact ⟨fun e => .inl e, fun e => no_lt e (HT.out c q (by omega) (by omega) q0 q1)⟩)
    have HHJ := hid (show a ≤ c ∧ i ≤ c ∧ c < j ∧ j ≤ m from ⟨by omega, by omega, by omega, by omega⟩)
    have wh : IntKind.i64.wrap ((c : Int) + 1) = ((c + 1 : Nat) : Int) := by rw [IntKind.wrap_i64]; omega
    obtain ⟨PA, hPA⟩ : ∃ P : Prop, lt r (gd l0 (mid + m - c - 1)) (gd l0 c) = P := ⟨_, rfl⟩
    obtain ⟨PB, hPB⟩ : ∃ P : Prop, lt r (gd l0 (c + 1 - 1)) (gd l0 (mid + m - (c + 1))) = P := ⟨_, rfl⟩
    rw [hPA, hPB] at HP
    obtain ⟨x0, x1⟩ := hbd9 q (by omega)
    obtain ⟨y0, y1⟩ := hbd9 c (by omega)
    have C1 := hid (CQ.out wr K1.out _ _ x0 x1 y0 y1)
    obtain ⟨vx, hvx⟩ : ∃ v, gd l0 q = v := ⟨_, rfl⟩
    have cx : wr.cell? ⟨g, q, none⟩ = some (.int .i64 vx) := by rw [← hvx]; exact U1.out.cell (by omega)
    obtain ⟨vy, hvy⟩ : ∃ v, gd l0 c = v := ⟨_, rfl⟩
    have cy : wr.cell? ⟨g, c, none⟩ = some (.int .i64 vy) := by rw [← hvy]; exact U1.out.cell (by omega)
    rw [hvx, hvy] at C1 HP
    have c0' : (0 : Int) ≤ (c : Int) := by omega
    have c2 : (c : Int) < (n : Int) := by omega
    have q0' : (0 : Int) ≤ (q : Int) := by omega
    have q2 : (q : Int) < (n : Int) := by omega
    clear x0 x1 y0 y1 hvx hvy hbd9
    go_upto_region 35 with fail
    try rw [hI]
    go_quiet (first | (go_at_call 110; with_reducible exact Calls.quiet_of (C1.out _)))
    rw [cm_neg]
    have U1 := hid (U1.out.same (w' := wr.drewN nq) rfl)
    have K1 := hid (K1.out.trans (Kp.drewN _ wr nq) (fun _ _ e => e))
    obtain ⟨V, hV⟩ : ∃ U, wr.drewN nq = U := ⟨_, rfl⟩
    rw [hV] at U1 K1 ⊢
    clear hV
    cases hb : decide (r vy < r vx) with
    | true =>
     have HQ := hid (show j = m ∨ lt r (gd l0 (mid + m - c - 1)) (gd l0 c) from by rw [hPA]; exact .inr (HP.out.1 (of_decide_eq_true hb)))
     have HQ2 := hid (show c = m ∨ lt r (gd l0 (mid + m - c - 1)) (gd l0 c) from by rw [hPA]; exact .inr (HP.out.1 (of_decide_eq_true hb)))
     clear hb cx cy HP C1 hPA hPB hI hh
     go_wp2
     go_roundw
     case rel => exact ⟨i, c, rfl, by go_num, i0, by have := HHJ.out; omega, by have := HHJ.out; omega, U1, K1, HA, HQ2⟩
     case measure => have := HHJ.out; simp [intOf]; omega
    | false =>
     have HQ := hid (show c + 1 = a ∨ lt r (gd l0 (c + 1 - 1)) (gd l0 (mid + m - (c + 1))) from by rw [hPB]; exact .inr (HP.out.2 (of_decide_eq_false hb)))
     clear hb cx cy HP C1 hPA hPB hI hh
     go_wp2
     go_roundw
     case rel => exact ⟨c + 1, j, by go_num, rfl, by have := HHJ.out; omega, by have := HHJ.out; omega, j1, U1, K1, HQ, HB⟩
     case measure => have := HHJ.out; simp [intOf]; omega
   ·have eij : j = i := by omega
    subst eij
    have HC := hid (cut_of (s0 := a) (r0 := m) am mb hmid.symm (.inr ⟨by omega, rfl, rfl⟩) i0 j1 HL.out HR.out HA.out HB.out)
    obtain ⟨e, he⟩ : ∃ e, mid + m - j = e := ⟨_, rfl⟩
    have we : (nn : Int) - (j : Int) = (e : Int) := by omega
    rw [he] at HC
    obtain ⟨sa, sm, me, eb, _, _⟩ := id HC.out
    have sem : j + e = mid + m := by omega
    have HRT := hid (HC.out.rot sem HL.out HR.out HT.out)
    have jm : j ≤ mid := by omega
    have mide : mid ≤ e := by omega
    clear HA HB HC H0
    by_cases hr1 : j < m
    ·by_cases hr2 : m < e
     ·have d1 : decide ((j : Int) < (m : Int)) = true := decide_eq_true (by omega)
      have d2 : decide ((m : Int) < (e : Int)) = true := decide_eq_true (by omega)
      have CR := hid (rot_any g cap n B l0 j m e wr U1.out (by omega) (by omega) (by omega) hn)
      go_upto_region 41 with (go_at_call 128; with_reducible refine CR.out.mono ?_; rintro ee W1 ⟨rfl, z1⟩; have HZ := hid z1; clear z1)
      obtain ⟨l1, ⟨p1, e1⟩, u1, k1⟩ := HZ.out
      have P1 := hid p1
      have U2 := hid u1
      have K2 := hid (K1.out.trans k1 (fun _ _ e => e))
      have HR1 := hid HRT.out
      rw [← e1] at HR1
      clear p1 u1 k1 e1 HZ CR d1 d2
      by_cases hl1 : a < j
      ·by_cases hl2 : j < mid
       ·have d1 : decide ((a : Int) < (j : Int)) = true := decide_eq_true (by omega)
        have d2 : decide ((j : Int) < (mid : Int)) = true := decide_eq_true (by omega)
        have CL := hid (ih l1 a j mid W1 (by omega) U2.out (by omega) (by omega) (by omega) (fun x hx => HBD.out x (P1.out.mem_iff.1 hx)) HR1.out.1 HR1.out.2.1 HR1.out.2.2.1 (CQ.out.on K2.out))
        go_upto_region 43 with (go_at_call 127; with_reducible refine CL.out.mono ?_; rintro ee W2 ⟨rfl, z1⟩; have HZ2 := hid z1; clear z1)
        obtain ⟨l2, ⟨p2, g2, s2⟩, u2, k2⟩ := HZ2.out
        have P2 := hid (p2.trans P1.out)
        have U3 := hid u2
        have K3 := hid (K2.out.trans k2 (fun _ _ e => e))
        have G2 := hid g2
        have S2 := hid s2
        clear p2 u2 k2 g2 s2 HZ2 CL d1 d2
        have R1 := hid (HR1.out.2.2.2.1.congr (f' := gd l2) (fun x x1 x2 => G2.out.out x (.inr x1)))
        have R2 := hid (HR1.out.2.2.2.2.1.congr (f' := gd l2) (fun x x1 x2 => G2.out.out x (.inr (by omega))))
        have R3 := hid (show Stb r (gd l2) mid e b from fun x y x1 x2 y1 y2 => by rw [G2.out.out x (.inr x1), G2.out.out y (.inr (by omega))]; exact HR1.out.2.2.2.2.2.1 x y x1 x2 y1 y2)
        by_cases hx1 : mid < e
        ·have d1 : decide ((mid : Int) < (e : Int)) = true := decide_eq_true (by omega)
         by_cases hx2 : e < b
         ·have d2 : decide ((e : Int) < (b : Int)) = true := decide_eq_true (by omega)
          have CL := hid (ih l2 mid e b W2 (by omega) U3.out (by omega) (by omega) (by omega) (fun x hx => HBD.out x (P2.out.mem_iff.1 hx)) R1.out R2.out R3.out (CQ.out.on K3.out))
          go_wp2_with (go_at_call 127; with_reducible refine CL.out.mono ?_; rintro ee W3 ⟨rfl, z1⟩; have HZ3 := hid z1; clear z1)
          go_end0
          obtain ⟨l3, ⟨p3, g3, s3⟩, u3, k3⟩ := HZ3.out
          obtain ⟨f1, f2⟩ := sym_fin (by omega) (by omega) HR1.out.2.2.2.2.2.2.1 HR1.out.2.2.2.2.2.2.2 G2.out S2.out g3 s3
          exact ⟨rfl, l3, ⟨p3.trans P2.out, f1, f2⟩, u3, K3.out.trans k3 (fun _ _ e => e)⟩
         ·have d2 : decide ((e : Int) < (b : Int)) = false := decide_eq_false (by omega)
          have S3 := hid (srt_no R1.out R2.out (by omega) mide eb)
          go_wp2
          go_end0
          obtain ⟨f1, f2⟩ := sym_fin (by omega) (by omega) HR1.out.2.2.2.2.2.2.1 HR1.out.2.2.2.2.2.2.2 G2.out S2.out (Seg.refl _ _ _) S3.out
          exact ⟨rfl, l2, ⟨P2.out, f1, f2⟩, U3.out, K3.out⟩
        ·have d1 : decide ((mid : Int) < (e : Int)) = false := decide_eq_false (by omega)
         have S3 := hid (srt_no R1.out R2.out (by omega) mide eb)
         go_wp2
         go_end0
         obtain ⟨f1, f2⟩ := sym_fin (by omega) (by omega) HR1.out.2.2.2.2.2.2.1 HR1.out.2.2.2.2.2.2.2 G2.out S2.out (Seg.refl _ _ _) S3.out
         exact ⟨rfl, l2, ⟨P2.out, f1, f2⟩, U3.out, K3.out⟩
       ·have d1 : decide ((a : Int) < (j : Int)) = true := decide_eq_true (by omega)
        have d2 : decide ((j : Int) < (mid : Int)) = false := decide_eq_false (by omega)
        have S2 := hid (srt_no HR1.out.1 HR1.out.2.1 (by omega) sa jm)
        go_upto_region 43 with fail
        obtain ⟨l2, hl2⟩ : ∃ l, l = l1 := ⟨_, rfl⟩
        have P2 := hid (show l2.Perm l0 from by rw [hl2]; exact P1.out)
        have U3 := hid (show Uz W1 g n l2 from by rw [hl2]; exact U2.out)
        have K3 := hid K2.out
        have G2 := hid (show Seg (gd l1) (gd l2) a mid from by rw [hl2]; exact Seg.refl _ _ _)
        rw [← hl2] at S2
        clear hl2 d1 d2
        have R1 := hid (HR1.out.2.2.2.1.congr (f' := gd l2) (fun x x1 x2 => G2.out.out x (.inr x1)))
        have R2 := hid (HR1.out.2.2.2.2.1.congr (f' := gd l2) (fun x x1 x2 => G2.out.out x (.inr (by omega))))
        have R3 := hid (show Stb r (gd l2) mid e b from fun x y x1 x2 y1 y2 => by rw [G2.out.out x (.inr x1), G2.out.out y (.inr (by omega))]; exact HR1.out.2.2.2.2.2.1 x y x1 x2 y1 y2)
        by_cases hx1 : mid < e
        ·have d1 : decide ((mid : Int) < (e : Int)) = true := decide_eq_true (by omega)
         by_cases hx2 : e < b
         ·have d2 : decide ((e : Int) < (b : Int)) = true := decide_eq_true (by omega)
          have CL := hid (ih l2 mid e b W1 (by omega) U3.out (by omega) (by omega) (by omega) (fun x hx => HBD.out x (P2.out.mem_iff.1 hx)) R1.out R2.out R3.out (CQ.out.on K3.out))
          go_wp2_with (go_at_call 127; with_reducible refine CL.out.mono ?_; rintro ee W3 ⟨rfl, z1⟩; have HZ3 := hid z1; clear z1)
          go_end0
          obtain ⟨l3, ⟨p3, g3, s3⟩, u3, k3⟩ := HZ3.out
          obtain ⟨f1, f2⟩ := sym_fin (by omega) (by omega) HR1.out.2.2.2.2.2.2.1 HR1.out.2.2.2.2.2.2.2 G2.out S2.out g3 s3
          exact ⟨rfl, l3, ⟨p3.trans P2.out, f1, f2⟩, u3, K3.out.trans k3 (fun _ _ e => e)⟩
         ·have d2 : decide ((e : Int) < (b : Int)) = false := decide_eq_false (by omega)
          have S3 := hid (srt_no R1.out R2.out (by omega) mide eb)
          go_wp2
          go_end0
          obtain ⟨f1, f2⟩ := sym_fin (by omega) (by omega) HR1.out.2.2.2.2.2.2.1 HR1.out.2.2.2.2.2.2.2 G2.out S2.out (Seg.refl _ _ _) S3.out
          exact ⟨rfl, l2, ⟨P2.out, f1, f2⟩, U3.out, K3.out⟩
        ·have d1 : decide ((mid : Int) < (e : Int)) = false := decide_eq_false (by omega)
         have S3 := hid (srt_no R1.out R2.out (by omega) mide eb)
         go_wp2
         go_end0
         obtain ⟨f1, f2⟩ := sym_fin (by omega) (by omega) HR1.out.2.2.2.2.2.2.1 HR1.out.2.2.2.2.2.2.2 G2.out S2.out (Seg.refl _ _ _) S3.out
         exact ⟨rfl, l2, ⟨P2.out, f1, f2⟩, U3.out, K3.out⟩
      ·have d1 : decide ((a : Int) < (j : Int)) = false := decide_eq_false (by omega)
       have S2 := hid (srt_no HR1.out.1 HR1.out.2.1 (by omega) sa jm)
       go_upto_region 43 with fail
       obtain ⟨l2, hl2⟩ : ∃ l, l = l1 := ⟨_, rfl⟩
       have P2 := hid (show l2.Perm l0 from by rw [hl2]; exact P1.out)
       have U3 := hid (show Uz W1 g n l2 from by rw [hl2]; exact U2.out)
       have K3 := hid K2.out
       have G2 := hid (show Seg (gd l1) (gd l2) a mid from by rw [hl2]; exact Seg.refl _ _ _)
       rw [← hl2] at S2
       clear hl2 d1
       have R1 := hid (HR1.out.2.2.2.1.congr (f' := gd l2) (fun x x1 x2 => G2.out.out x (.inr x1)))
       have R2 := hid (HR1.out.2.2.2.2.1.congr (f' := gd l2) (fun x x1 x2 => G2.out.out x (.inr (by omega))))
       have R3 := hid (show Stb r (gd l2) mid e b from fun x y x1 x2 y1 y2 => by rw [G2.out.out x (.inr x1), G2.out.out y (.inr (by omega))]; exact HR1.out.2.2.2.2.2.1 x y x1 x2 y1 y2)
       by_cases hx1 : mid < e
       ·have d1 : decide ((mid : Int) < (e : Int)) = true := decide_eq_true (by omega)
        by_cases hx2 : e < b
        ·have d2 : decide ((e : Int) < (b : Int)) = true := decide_eq_true (by omega)
         have CL := hid (ih l2 mid e b W1 (by omega) U3.out (by omega) (by omega) (by omega) (fun x hx => HBD.out x (P2.out.mem_iff.1 hx)) R1.out R2.out R3.out (CQ.out.on K3.out))
         go_wp2_with (go_at_call 127; with_reducible refine CL.out.mono ?_; rintro ee W3 ⟨rfl, z1⟩; have HZ3 := hid z1; clear z1)
         go_end0
         obtain ⟨l3, ⟨p3, g3, s3⟩, u3, k3⟩ := HZ3.out
         obtain ⟨f1, f2⟩ := sym_fin (by omega) (by omega) HR1.out.2.2.2.2.2.2.1 HR1.out.2.2.2.2.2.2.2 G2.out S2.out g3 s3
         exact ⟨rfl, l3, ⟨p3.trans P2.out, f1, f2⟩, u3, K3.out.trans k3 (fun _ _ e => e)⟩
        ·have d2 : decide ((e : Int) < (b : Int)) = false := decide_eq_false (by omega)
         have S3 := hid (srt_no R1.out R2.out (by omega) mide eb)
         go_wp2
         go_end0
         obtain ⟨f1, f2⟩ := sym_fin (by omega) (by omega) HR1.out.2.2.2.2.2.2.1 HR1.out.2.2.2.2.2.2.2 G2.out S2.out (Seg.refl _ _ _) S3.out
         exact ⟨rfl, l2, ⟨P2.out, f1, f2⟩, U3.out, K3.out⟩
       ·have d1 : decide ((mid : Int) < (e : Int)) = false := decide_eq_false (by omega)
        have S3 := hid (srt_no R1.out R2.out (by omega) mide eb)
        go_wp2
        go_end0
        obtain ⟨f1, f2⟩ := sym_fin (by omega) (by omega) HR1.out.2.2.2.2.2.2.1 HR1.out.2.2.2.2.2.2.2 G2.out S2.out (Seg.refl _ _ _) S3.out
        exact ⟨rfl, l2, ⟨P2.out, f1, f2⟩, U3.out, K3.out⟩
     ·have hno : j = m ∨ e = m := by omega
      have d1 : decide ((j : Int) < (m : Int)) = true := decide_eq_true (by omega)
      have d2 : decide ((m : Int) < (e : Int)) = false := decide_eq_false (by omega)
      go_upto_region 41 with fail
      have e1 := rot_id (f := gd l0) hno sm me
      obtain ⟨l1, hl1⟩ : ∃ l, l = l0 := ⟨_, rfl⟩
      have P1 := hid (show l1.Perm l0 from by rw [hl1])
      have U2 := hid (show Uz wr g n l1 from by rw [hl1]; exact U1.out)
      have K2 := hid K1.out
      have HR1 := hid HRT.out
      have e9 : gd l1 = rot (gd l0) j m e := by rw [hl1]; exact e1
      rw [← e9] at HR1
      clear hl1 e1 e9 d1 hno d2
      by_cases hl1 : a < j
      ·by_cases hl2 : j < mid
       ·have d1 : decide ((a : Int) < (j : Int)) = true := decide_eq_true (by omega)
        have d2 : decide ((j : Int) < (mid : Int)) = true := decide_eq_true (by omega)
        have CL := hid (ih l1 a j mid wr (by omega) U2.out (by omega) (by omega) (by omega) (fun x hx => HBD.out x (P1.out.mem_iff.1 hx)) HR1.out.1 HR1.out.2.1 HR1.out.2.2.1 (CQ.out.on K2.out))
        go_upto_region 43 with (go_at_call 127; with_reducible refine CL.out.mono ?_; rintro ee W2 ⟨rfl, z1⟩; have HZ2 := hid z1; clear z1)
        obtain ⟨l2, ⟨p2, g2, s2⟩, u2, k2⟩ := HZ2.out
        have P2 := hid (p2.trans P1.out)
        have U3 := hid u2
        have K3 := hid (K2.out.trans k2 (fun _ _ e => e))
        have G2 := hid g2
        have S2 := hid s2
        clear p2 u2 k2 g2 s2 HZ2 CL d1 d2
        have R1 := hid (HR1.out.2.2.2.1.congr (f' := gd l2) (fun x x1 x2 => G2.out.out x (.inr x1)))
        have R2 := hid (HR1.out.2.2.2.2.1.congr (f' := gd l2) (fun x x1 x2 => G2.out.out x (.inr (by omega))))
        have R3 := hid (show Stb r (gd l2) mid e b from fun x y x1 x2 y1 y2 => by rw [G2.out.out x (.inr x1), G2.out.out y (.inr (by omega))]; exact HR1.out.2.2.2.2.2.1 x y x1 x2 y1 y2)
        by_cases hx1 : mid < e
        ·have d1 : decide ((mid : Int) < (e : Int)) = true := decide_eq_true (by omega)
         by_cases hx2 : e < b
         ·have d2 : decide ((e : Int) < (b : Int)) = true := decide_eq_true (by omega)
          have CL := hid (ih l2 mid e b W2 (by omega) U3.out (by omega) (by omega) (by omega) (fun x hx => HBD.out x (P2.out.mem_iff.1 hx)) R1.out R2.out R3.out (CQ.out.on K3.out))
          go_wp2_with (go_at_call 127; with_reducible refine CL.out.mono ?_; rintro ee W3 ⟨rfl, z1⟩; have HZ3 := hid z1; clear z1)
          go_end0
          obtain ⟨l3, ⟨p3, g3, s3⟩, u3, k3⟩ := HZ3.out
          obtain ⟨f1, f2⟩ := sym_fin (by omega) (by omega) HR1.out.2.2.2.2.2.2.1 HR1.out.2.2.2.2.2.2.2 G2.out S2.out g3 s3
          exact ⟨rfl, l3, ⟨p3.trans P2.out, f1, f2⟩, u3, K3.out.trans k3 (fun _ _ e => e)⟩
         ·have d2 : decide ((e : Int) < (b : Int)) = false := decide_eq_false (by omega)
          have S3 := hid (srt_no R1.out R2.out (by omega) mide eb)
          go_wp2
          go_end0
          obtain ⟨f1, f2⟩ := sym_fin (by omega) (by omega) HR1.out.2.2.2.2.2.2.1 HR1.out.2.2.2.2.2.2.2 G2.out S2.out (Seg.refl _ _ _) S3.out
          exact ⟨rfl, l2, ⟨P2.out, f1, f2⟩, U3.out, K3.out⟩
        ·have d1 : decide ((mid : Int) < (e : Int)) = false := decide_eq_false (by omega)
         have S3 := hid (srt_no R1.out R2.out (by omega) mide eb)
         go_wp2
         go_end0
         obtain ⟨f1, f2⟩ := sym_fin (by omega) (by omega) HR1.out.2.2.2.2.2.2.1 HR1.out.2.2.2.2.2.2.2 G2.out S2.out (Seg.refl _ _ _) S3.out
         exact ⟨rfl, l2, ⟨P2.out, f1, f2⟩, U3.out, K3.out⟩
       ·have d1 : decide ((a : Int) < (j : Int)) = true := decide_eq_true (by omega)
        have d2 : decide ((j : Int) < (mid : Int)) = false := decide_eq_false (by omega)
        have S2 := hid (srt_no HR1.out.1 HR1.out.2.1 (by omega) sa jm)
        go_upto_region 43 with fail
        obtain ⟨l2, hl2⟩ : ∃ l, l = l1 := ⟨_, rfl⟩
        have P2 := hid (show l2.Perm l0 from by rw [hl2]; exact P1.out)
        have U3 := hid (show Uz wr g n l2 from by rw [hl2]; exact U2.out)
        have K3 := hid K2.out
        have G2 := hid (show Seg (gd l1) (gd l2) a mid from by rw [hl2]; exact Seg.refl _ _ _)
        rw [← hl2] at S2
        clear hl2 d1 d2
        have R1 := hid (HR1.out.2.2.2.1.congr (f' := gd l2) (fun x x1 x2 => G2.out.out x (.inr x1)))
        have R2 := hid (HR1.out.2.2.2.2.1.congr (f' := gd l2) (fun x x1 x2 => G2.out.out x (.inr (by omega))))
        have R3 := hid (show Stb r (gd l2) mid e b from fun x y x1 x2 y1 y2 => by rw [G2.out.out x (.inr x1), G2.out.out y (.inr (by omega))]; exact HR1.out.2.2.2.2.2.1 x y x1 x2 y1 y2)
        by_cases hx1 : mid < e
        ·have d1 : decide ((mid : Int) < (e : Int)) = true := decide_eq_true (by omega)
         by_cases hx2 : e < b
         ·have d2 : decide ((e : Int) < (b : Int)) = true := decide_eq_true (by omega)
          have CL := hid (ih l2 mid e b wr (by omega) U3.out (by omega) (by omega) (by omega) (fun x hx => HBD.out x (P2.out.mem_iff.1 hx)) R1.out R2.out R3.out (CQ.out.on K3.out))
          go_wp2_with (go_at_call 127; with_reducible refine CL.out.mono ?_; rintro ee W3 ⟨rfl, z1⟩; have HZ3 := hid z1; clear z1)
          go_end0
          obtain ⟨l3, ⟨p3, g3, s3⟩, u3, k3⟩ := HZ3.out
          obtain ⟨f1, f2⟩ := sym_fin (by omega) (by omega) HR1.out.2.2.2.2.2.2.1 HR1.out.2.2.2.2.2.2.2 G2.out S2.out g3 s3
          exact ⟨rfl, l3, ⟨p3.trans P2.out, f1, f2⟩, u3, K3.out.trans k3 (fun _ _ e => e)⟩
         ·have d2 : decide ((e : Int) < (b : Int)) = false := decide_eq_false (by omega)
          have S3 := hid (srt_no R1.out R2.out (by omega) mide eb)
          go_wp2
          go_end0
          obtain ⟨f1, f2⟩ := sym_fin (by omega) (by omega) HR1.out.2.2.2.2.2.2.1 HR1.out.2.2.2.2.2.2.2 G2.out S2.out (Seg.refl _ _ _) S3.out
          exact ⟨rfl, l2, ⟨P2.out, f1, f2⟩, U3.out, K3.out⟩
        ·have d1 : decide ((mid : Int) < (e : Int)) = false := decide_eq_false (by omega)
         have S3 := hid (srt_no R1.out R2.out (by omega) mide eb)
         go_wp2
         go_end0
         obtain ⟨f1, f2⟩ := sym_fin (by omega) (by omega) HR1.out.2.2.2.2.2.2.1 HR1.out.2.2.2.2.2.2.2 G2.out S2.out (Seg.refl _ _ _) S3.out
         exact ⟨rfl, l2, ⟨P2.out, f1, f2⟩, U3.out, K3.out⟩
      ·have d1 : decide ((a : Int) < (j : Int)) = false := decide_eq_false (by omega)
       have S2 := hid (srt_no HR1.out.1 HR1.out.2.1 (by omega) sa jm)
       go_upto_region 43 with fail
       obtain ⟨l2, hl2⟩ : ∃ l, l = l1 := ⟨_, rfl⟩
       have P2 := hid (show l2.Perm l0 from by rw [hl2]; exact P1.out)
       have U3 := hid (show Uz wr g n l2 from by rw [hl2]; exact U2.out)
       have K3 := hid K2.out
       have G2 := hid (show Seg (gd l1) (gd l2) a mid from by rw [hl2]; exact Seg.refl _ _ _)
       rw [← hl2] at S2
       clear hl2 d1
       have R1 := hid (HR1.out.2.2.2.1.congr (f' := gd l2) (fun x x1 x2 => G2.out.out x (.inr x1)))
       have R2 := hid (HR1.out.2.2.2.2.1.congr (f' := gd l2) (fun x x1 x2 => G2.out.out x (.inr (by omega))))
       have R3 := hid (show Stb r (gd l2) mid e b from fun x y x1 x2 y1 y2 => by rw [G2.out.out x (.inr x1), G2.out.out y (.inr (by omega))]; exact HR1.out.2.2.2.2.2.1 x y x1 x2 y1 y2)
       by_cases hx1 : mid < e
       ·have d1 : decide ((mid : Int) < (e : Int)) = true := decide_eq_true (by omega)
        by_cases hx2 : e < b
        ·have d2 : decide ((e : Int) < (b : Int)) = true := decide_eq_true (by omega)
         have CL := hid (ih l2 mid e b wr (by omega) U3.out (by omega) (by omega) (by omega) (fun x hx => HBD.out x (P2.out.mem_iff.1 hx)) R1.out R2.out R3.out (CQ.out.on K3.out))
         go_wp2_with (go_at_call 127; with_reducible refine CL.out.mono ?_; rintro ee W3 ⟨rfl, z1⟩; have HZ3 := hid z1; clear z1)
         go_end0
         obtain ⟨l3, ⟨p3, g3, s3⟩, u3, k3⟩ := HZ3.out
         obtain ⟨f1, f2⟩ := sym_fin (by omega) (by omega) HR1.out.2.2.2.2.2.2.1 HR1.out.2.2.2.2.2.2.2 G2.out S2.out g3 s3
         exact ⟨rfl, l3, ⟨p3.trans P2.out, f1, f2⟩, u3, K3.out.trans k3 (fun _ _ e => e)⟩
        ·have d2 : decide ((e : Int) < (b : Int)) = false := decide_eq_false (by omega)
         have S3 := hid (srt_no R1.out R2.out (by omega) mide eb)
         go_wp2
         go_end0
         obtain ⟨f1, f2⟩ := sym_fin (by omega) (by omega) HR1.out.2.2.2.2.2.2.1 HR1.out.2.2.2.2.2.2.2 G2.out S2.out (Seg.refl _ _ _) S3.out
         exact ⟨rfl, l2, ⟨P2.out, f1, f2⟩, U3.out, K3.out⟩
       ·have d1 : decide ((mid : Int) < (e : Int)) = false := decide_eq_false (by omega)
        have S3 := hid (srt_no R1.out R2.out (by omega) mide eb)
        go_wp2
        go_end0
        obtain ⟨f1, f2⟩ := sym_fin (by omega) (by omega) HR1.out.2.2.2.2.2.2.1 HR1.out.2.2.2.2.2.2.2 G2.out S2.out (Seg.refl _ _ _) S3.out
        exact ⟨rfl, l2, ⟨P2.out, f1, f2⟩, U3.out, K3.out⟩
    ·have hno : j = m ∨ e = m := by omega
     have d1 : decide ((j : Int) < (m : Int)) = false := decide_eq_false (by omega)
     go_upto_region 41 with fail
     have e1 := rot_id (f := gd l0) hno sm me
     obtain ⟨l1, hl1⟩ : ∃ l, l = l0 := ⟨_, rfl⟩
     have P1 := hid (show l1.Perm l0 from by rw [hl1])
     have U2 := hid (show Uz wr g n l1 from by rw [hl1]; exact U1.out)
     have K2 := hid K1.out
     have HR1 := hid HRT.out
     have e9 : gd l1 = rot (gd l0) j m e := by rw [hl1]; exact e1
     rw [← e9] at HR1
     clear hl1 e1 e9 d1 hno
     by_cases hl1 : a < j
     ·by_cases hl2 : j < mid
      ·have d1 : decide ((a : Int) < (j : Int)) = true := decide_eq_true (by omega)
       have d2 : decide ((j : Int) < (mid : Int)) = true := decide_eq_true (by omega)
       have CL := hid (ih l1 a j mid wr (by omega) U2.out (by omega) (by omega) (by omega) (fun x hx => HBD.out x (P1.out.mem_iff.1 hx)) HR1.out.1 HR1.out.2.1 HR1.out.2.2.1 (CQ.out.on K2.out))
       go_upto_region 43 with (go_at_call 127; with_reducible refine CL.out.mono ?_; rintro ee W2 ⟨rfl, z1⟩; have HZ2 := hid z1; clear z1)
       obtain ⟨l2, ⟨p2, g2, s2⟩, u2, k2⟩ := HZ2.out
       have P2 := hid (p2.trans P1.out)
       have U3 := hid u2
       have K3 := hid (K2.out.trans k2 (fun _ _ e => e))
       have G2 := hid g2
       have S2 := hid s2
       clear p2 u2 k2 g2 s2 HZ2 CL d1 d2
       have R1 := hid (HR1.out.2.2.2.1.congr (f' := gd l2) (fun x x1 x2 => G2.out.out x (.inr x1)))
       have R2 := hid (HR1.out.2.2.2.2.1.congr (f' := gd l2) (fun x x1 x2 => G2.out.out x (.inr (by omega))))
       have R3 := hid (show Stb r (gd l2) mid e b from fun x y x1 x2 y1 y2 => by rw [G2.out.out x (.inr x1), G2.out.out y (.inr (by omega))]; exact HR1.out.2.2.2.2.2.1 x y x1 x2 y1 y2)
       by_cases hx1 : mid < e
       ·have d1 : decide ((mid : Int) < (e : Int)) = true := decide_eq_true (by omega)
        by_cases hx2 : e < b
        ·have d2 : decide ((e : Int) < (b : Int)) = true := decide_eq_true (by omega)
         have CL := hid (ih l2 mid e b W2 (by omega) U3.out (by omega) (by omega) (by omega) (fun x hx => HBD.out x (P2.out.mem_iff.1 hx)) R1.out R2.out R3.out (CQ.out.on K3.out))
         go_wp2_with (go_at_call 127; with_reducible refine CL.out.mono ?_; rintro ee W3 ⟨rfl, z1⟩; have HZ3 := hid z1; clear z1)
         go_end0
         obtain ⟨l3, ⟨p3, g3, s3⟩, u3, k3⟩ := HZ3.out
         obtain ⟨f1, f2⟩ := sym_fin (by omega) (by omega) HR1.out.2.2.2.2.2.2.1 HR1.out.2.2.2.2.2.2.2 G2.out S2.out g3 s3
         exact ⟨rfl, l3, ⟨p3.trans P2.out, f1, f2⟩, u3, K3.out.trans k3 (fun _ _ e => e)⟩
        ·have d2 : decide ((e : Int) < (b : Int)) = false := decide_eq_false (by omega)
         have S3 := hid (srt_no R1.out R2.out (by omega) mide eb)
         go_wp2
         go_end0
         obtain ⟨f1, f2⟩ := sym_fin (by omega) (by omega) HR1.out.2.2.2.2.2.2.1 HR1.out.2.2.2.2.2.2.2 G2.out S2.out (Seg.refl _ _ _) S3.out
         exact ⟨rfl, l2, ⟨P2.out, f1, f2⟩, U3.out, K3.out⟩
       ·have d1 : decide ((mid : Int) < (e : Int)) = false := decide_eq_false (by omega)
        have S3 := hid (srt_no R1.out R2.out (by omega) mide eb)
        go_wp2
        go_end0
        obtain ⟨f1, f2⟩ := sym_fin (by omega) (by omega) HR1.out.2.2.2.2.2.2.1 HR1.out.2.2.2.2.2.2.2 G2.out S2.out (Seg.refl _ _ _) S3.out
        exact ⟨rfl, l2, ⟨P2.out, f1, f2⟩, U3.out, K3.out⟩
      ·have d1 : decide ((a : Int) < (j : Int)) = true := decide_eq_true (by omega)
       have d2 : decide ((j : Int) < (mid : Int)) = false := decide_eq_false (by omega)
       have S2 := hid (srt_no HR1.out.1 HR1.out.2.1 (by omega) sa jm)
       go_upto_region 43 with fail
       obtain ⟨l2, hl2⟩ : ∃ l, l = l1 := ⟨_, rfl⟩
       have P2 := hid (show l2.Perm l0 from by rw [hl2]; exact P1.out)
       have U3 := hid (show Uz wr g n l2 from by rw [hl2]; exact U2.out)
       have K3 := hid K2.out
       have G2 := hid (show Seg (gd l1) (gd l2) a mid from by rw [hl2]; exact Seg.refl _ _ _)
       rw [← hl2] at S2
       clear hl2 d1 d2
       have R1 := hid (HR1.out.2.2.2.1.congr (f' := gd l2) (fun x x1 x2 => G2.out.out x (.inr x1)))
       have R2 := hid (HR1.out.2.2.2.2.1.congr (f' := gd l2) (fun x x1 x2 => G2.out.out x (.inr (by omega))))
       have R3 := hid (show Stb r (gd l2) mid e b from fun x y x1 x2 y1 y2 => by rw [G2.out.out x (.inr x1), G2.out.out y (.inr (by omega))]; exact HR1.out.2.2.2.2.2.1 x y x1 x2 y1 y2)
       by_cases hx1 : mid < e
       ·have d1 : decide ((mid : Int) < (e : Int)) = true := decide_eq_true (by omega)
        by_cases hx2 : e < b
        ·have d2 : decide ((e : Int) < (b : Int)) = true := decide_eq_true (by omega)
         have CL := hid (ih l2 mid e b wr (by omega) U3.out (by omega) (by omega) (by omega) (fun x hx => HBD.out x (P2.out.mem_iff.1 hx)) R1.out R2.out R3.out (CQ.out.on K3.out))
         go_wp2_with (go_at_call 127; with_reducible refine CL.out.mono ?_; rintro ee W3 ⟨rfl, z1⟩; have HZ3 := hid z1; clear z1)
         go_end0
         obtain ⟨l3, ⟨p3, g3, s3⟩, u3, k3⟩ := HZ3.out
         obtain ⟨f1, f2⟩ := sym_fin (by omega) (by omega) HR1.out.2.2.2.2.2.2.1 HR1.out.2.2.2.2.2.2.2 G2.out S2.out g3 s3
         exact ⟨rfl, l3, ⟨p3.trans P2.out, f1, f2⟩, u3, K3.out.trans k3 (fun _ _ e => e)⟩
        ·have d2 : decide ((e : Int) < (b : Int)) = false := decide_eq_false (by omega)
         have S3 := hid (srt_no R1.out R2.out (by omega) mide eb)
         go_wp2
         go_end0
         obtain ⟨f1, f2⟩ := sym_fin (by omega) (by omega) HR1.out.2.2.2.2.2.2.1 HR1.out.2.2.2.2.2.2.2 G2.out S2.out (Seg.refl _ _ _) S3.out
         exact ⟨rfl, l2, ⟨P2.out, f1, f2⟩, U3.out, K3.out⟩
       ·have d1 : decide ((mid : Int) < (e : Int)) = false := decide_eq_false (by omega)
        have S3 := hid (srt_no R1.out R2.out (by omega) mide eb)
        go_wp2
        go_end0
        obtain ⟨f1, f2⟩ := sym_fin (by omega) (by omega) HR1.out.2.2.2.2.2.2.1 HR1.out.2.2.2.2.2.2.2 G2.out S2.out (Seg.refl _ _ _) S3.out
        exact ⟨rfl, l2, ⟨P2.out, f1, f2⟩, U3.out, K3.out⟩
     ·have d1 : decide ((a : Int) < (j : Int)) = false := decide_eq_false (by omega)
      have S2 := hid (srt_no HR1.out.1 HR1.out.2.1 (by omega) sa jm)
      go_upto_region 43 with fail
      obtain ⟨l2, hl2⟩ : ∃ l, l = l1 := ⟨_, rfl⟩
      have P2 := hid (show l2.Perm l0 from by rw [hl2]; exact P1.out)
      have U3 := hid (show Uz wr g n l2 from by rw [hl2]; exact U2.out)
      have K3 := hid K2.out
      have G2 := hid (show Seg (gd l1) (gd l2) a mid from by rw [hl2]; exact Seg.refl _ _ _)
      rw [← hl2] at S2
      clear hl2 d1
      have R1 := hid (HR1.out.2.2.2.1.congr (f' := gd l2) (fun x x1 x2 => G2.out.out x (.inr x1)))
      have R2 := hid (HR1.out.2.2.2.2.1.congr (f' := gd l2) (fun x x1 x2 => G2.out.out x (.inr (by omega))))
      have R3 := hid (show Stb r (gd l2) mid e b from fun x y x1 x2 y1 y2 => by rw [G2.out.out x (.inr x1), G2.out.out y (.inr (by omega))]; exact HR1.out.2.2.2.2.2.1 x y x1 x2 y1 y2)
      by_cases hx1 : mid < e
      ·have d1 : decide ((mid : Int) < (e : Int)) = true := decide_eq_true (by omega)
       by_cases hx2 : e < b
       ·have d2 : decide ((e : Int) < (b : Int)) = true := decide_eq_true (by omega)
        have CL := hid (ih l2 mid e b wr (by omega) U3.out (by omega) (by omega) (by omega) (fun x hx => HBD.out x (P2.out.mem_iff.1 hx)) R1.out R2.out R3.out (CQ.out.on K3.out))
        go_wp2_with (go_at_call 127; with_reducible refine CL.out.mono ?_; rintro ee W3 ⟨rfl, z1⟩; have HZ3 := hid z1; clear z1)
        go_end0
        obtain ⟨l3, ⟨p3, g3, s3⟩, u3, k3⟩ := HZ3.out
        obtain ⟨f1, f2⟩ := sym_fin (by omega) (by omega) HR1.out.2.2.2.2.2.2.1 HR1.out.2.2.2.2.2.2.2 G2.out S2.out g3 s3
        exact ⟨rfl, l3, ⟨p3.trans P2.out, f1, f2⟩, u3, K3.out.trans k3 (fun _ _ e => e)⟩
       ·have d2 : decide ((e : Int) < (b : Int)) = false := decide_eq_false (by omega)
        have S3 := hid (srt_no R1.out R2.out (by omega) mide eb)
        go_wp2
        go_end0
        obtain ⟨f1, f2⟩ := sym_fin (by omega) (by omega) HR1.out.2.2.2.2.2.2.1 HR1.out.2.2.2.2.2.2.2 G2.out S2.out (Seg.refl _ _ _) S3.out
        exact ⟨rfl, l2, ⟨P2.out, f1, f2⟩, U3.out, K3.out⟩
      ·have d1 : decide ((mid : Int) < (e : Int)) = false := decide_eq_false (by omega)
       have S3 := hid (srt_no R1.out R2.out (by omega) mide eb)
       go_wp2
       go_end0
       obtain ⟨f1, f2⟩ := sym_fin (by omega) (by omega) HR1.out.2.2.2.2.2.2.1 HR1.out.2.2.2.2.2.2.2 G2.out S2.out (Seg.refl _ _ _) S3.out
       exact ⟨rfl, l2, ⟨P2.out, f1, f2⟩, U3.out, K3.out⟩
theorem sym_any (g cap n N B : Nat) (r : Int → Int) (hn : n ≤ 1152921504606846976) : ∀ (d : Nat) (l0 : List Int) (a m b : Nat) (w0 : World), b - a ≤ d → Uz w0 g n l0 → a < m → m < b → b ≤ n → (∀ x ∈ l0, 0 ≤ x ∧ x < (N : Int)) → Srt r (gd l0) a m → Srt r (gd l0) m b → Stb r (gd l0) a m b → Cq w0 g B N r → Calls Tryz.prog 127 #[.slice (some ⟨g, 0, none⟩) n cap, .int .i64 a, .int .i64 m, .int .i64 b, .func (.func 110) #[] #[.pointer (some ⟨B, 0, none⟩)]] w0 fun e w' => e = .returned (.tuple #[]) ∧ Sp w0 w' g n (fun l => l.Perm l0 ∧ Seg (gd l0) (gd l) a b ∧ Srt r (gd l) a b)
 | 0, l0, a, m, b, w0, hd, _, am, mb, _, _, _, _, _, _ => by omega
 | d + 1, l0, a, m, b, w0, hd, h, am, mb, hbn, hbd, hl, hr, hst, hcq => by
  by_cases h1 : m = a + 1
  ·exact sym_l g cap n N B r l0 a m b w0 h am mb hbn hn hbd hl hr hst hcq h1
  ·by_cases h2 : b = m + 1
   ·exact sym_r g cap n N B r l0 a m b w0 h am mb hbn hn hbd hl hr hst hcq h2 h1
   ·exact sym_m g cap n N B r l0 a m b w0 h am mb hbn hn hbd hl hr hst hcq h1 h2 (fun l0 a' m' b' w0 hlt => sym_any g cap n N B r hn d l0 a' m' b' w0 (by omega))
end Go.Proofs.YtlhbgaiiehljpaaGreat.Ss
