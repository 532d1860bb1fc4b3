/-
  The document's Drop.
-/
import Derived.Test.YthidnipmkffilaaIyC
namespace Go.Proofs.Ythidnipmkffilaa
open Go.RowKit Go.Deep
set_option linter.unusedVariables false
set_option linter.unusedSimpArgs false
structure Mw (w : World) (X P n room : Nat) (R : Ix.Tab) (e hole a : Nat) (wr : World) : Prop where
  ex : ∃ (T : Ix.Tab) (f : Nat), Ix.Gap n (hm n) T hole a e ∧ Ix.ds n a e < f ∧ Ix.sh n (hm n) f T hole a = R ∧ Rx wr X P n room T
  kp : Kp (fun b => b = X ∨ b = P) w wr
set_option maxHeartbeats 4000000 in
set_option maxRecDepth 100000 in
theorem rdrop_there {w : World} {X P n room : Nat} {T : Ix.Tab} (h : Rx w X P n room T) (ht : Ix.Tidy n (hm n) T) {k v : Int} {i : Nat} (hil : i < n) (hi : T i = some (k, v)) :
    Calls Try.prog 28 #[.pointer (some ⟨X, 0, none⟩), .int .u64 k] w fun e w' => e = .returned (.tuple #[.int .i64 v, .bool true]) ∧ Rx w' X P n room (Ix.dr n (hm n) T i) ∧ Kp (fun b => b = X ∨ b = P) w w' := by
  have HC := hid (rfind_any h k)
  have HF := hid (ht.found hil hi)
  have hpos := h.pos
  have hmost := h.most
  have hk := hm_lt (n := n) (by omega) k
  have HKN := hid hk
  obtain ⟨e, he, hne, hf⟩ := Ix.cnt_free2 (T := Ix.up T i none) hil (by have := Ix.cnt_cut hil hi; have := h.le; have := h.two; have := h.one; omega)
  have hf' : T e = none := by rw [Ix.up_other _ _ hne] at hf; exact hf
  have HGAP := hid (ht.gap hpos hil hi he (Ne.symm hne) hf')
  have HCUT := hid (Ix.cnt_cut hil hi)
  have HL := hid h
  have HI := hid hi
  have HE := hid he
  have HPOS := hid hpos
  clear h ht hi hk hne hf hf' he hpos
  go_enter Try.func28, Try.ntmps28
  go_wp2_with (first | (go_at_call 38; with_reducible refine (HC.out).mono ?_; rintro e9 w9 ⟨i', rfl, hF', hK⟩; have hii := Ix.Fd.uniq HKN.out hF' HF.out; subst i'; have HK := hid hK; clear hF' hK; rw [HI.out]; simp only [eU]; refine Hid.out ?_))
  have L9 := HL.out.kp HK.out (fun h => h) (fun h => h)
  have HL9 := hid L9
  obtain ⟨c0, c1, c2⟩ := L9.pl.cell hil
  rw [HI.out] at c2
  simp only [eV] at c2
  obtain ⟨x0, x1, x2⟩ := L9.cells
  have g0 := L9.pl.frozen (i * 3)
  have g1 := L9.pl.frozen (i * 3 + 1)
  have g2 := L9.pl.frozen (i * 3 + 2)
  have gx := L9.rc.frozen 1
  have hXP : X ≠ P := L9.neXP
  have hPX : P ≠ X := Ne.symm hXP
  have f2 : (i : Int) < (n : Int) := by omega
  have f3 : (0 : Int) ≤ (i : Int) := by omega
  have ct1 : ((i : Int)).toNat = i := by omega
  have hle := L9.le
  have htw := L9.two
  obtain ⟨c, hcc⟩ : ∃ c, Ix.cnt T n = c + 1 := ⟨_, HCUT.out.symm⟩
  have hcq : Ix.cnt (Ix.up T i none) n = c := by have := HCUT.out; omega
  have hcb2 : (c : Int) ≤ 131072 := by omega
  have wc : wrap64 (c : Int) = (c : Int) := by unfold wrap64; omega
  rw [hcc] at x1
  have hR1 : Rx ((w3 w9 P i (.bool false) (.int .u64 0) (.int .i64 0)).setCell ⟨X, 1, none⟩ (.int .i64 (c : Int))) X P n room (Ix.up T i none) := by
    refine L9.ofLc ((L9.rc.set hil none).count (c : Int)) (by rw [hcq]) (by rw [hcq]; omega) ?_
    intro j k' v' hj ej
    by_cases hji : j = i
    · subst hji; rw [Ix.up_same] at ej; cases ej
    · rw [Ix.up_other _ _ hji] at ej; exact L9.keys j k' v' hj ej
  have HR1 := hid hR1
  have HN1 := hid (rnextC hR1.rc hmost hil)
  have HMW := hid (show Mw w X P n room (Ix.dr n (hm n) T i) e i (Ix.nx n i) ((w3 w9 P i (.bool false) (.int .u64 0) (.int .i64 0)).setCell ⟨X, 1, none⟩ (.int .i64 (c : Int))) from
    ⟨⟨_, n, HGAP.out, Ix.ds_lt (Ix.nx_lt hil) HE.out, rfl, hR1⟩, ((HK.out.mono (fun _ _ h => h.elim)).trans (Kp.w3 (B := fun b => b = X ∨ b = P) (.inr rfl) _ _ _ _)).trans (Kp.setCell (.inl rfl) _ _)⟩)
  obtain ⟨R, hRE⟩ : ∃ R, Ix.dr n (hm n) T i = R := ⟨_, rfl⟩
  rw [hRE] at HMW
  have HRE := hid hRE
  clear hRE
  obtain ⟨a0, ha0⟩ : ∃ a0, Ix.nx n i = a0 := ⟨_, rfl⟩
  rw [ha0] at HN1 HMW
  clear L9 hR1 hcc hcq hle htw ha0 hil
  refine hid ?_
  go_wp2_with (first | (go_at_call 39; with_reducible refine (HN1.out).mono ?_; rintro e9 w8 ⟨rfl, h9⟩; subst w8))
  go_loopw [6, 9] (fun hv av wr => ∃ h1 a1 : Nat, hv = .int .i64 h1 ∧ av = .int .i64 a1 ∧ Hid (Mw w X P n room R e h1 a1 wr)) (fun _ av _ => Ix.ds n (intOf av).toNat e)
  case atStart => exact ⟨i, a0, rfl, rfl, HMW⟩
  case round =>
    obtain ⟨h1, a1, rfl, rfl, HM⟩ := hrel
    clear HMW HN1 HR1 c0 c1 c2 x0 x1 x2 g0 g1 g2 gx f2 f3 ct1 hcb2 wc
    obtain ⟨T1, f, hg, hd, hR, hL⟩ := HM.out.ex
    have ha : a1 < n := hg.a_lt
    have hh : h1 < n := hg.hole_lt
    have hha : a1 ≠ h1 := by intro hx; subst hx; have := hg.pos; rw [Ix.ds_self] at this; omega
    obtain ⟨c0, c1, c2⟩ := hL.pl.cell ha
    have hc := hL.cells.2.2
    have f2 : (a1 : Int) < (n : Int) := by omega
    have f3 : (0 : Int) ≤ (a1 : Int) := by omega
    have ct1 : ((a1 : Int)).toNat = a1 := by omega
    have f4 : (h1 : Int) < (n : Int) := by omega
    have f5 : (0 : Int) ≤ (h1 : Int) := by omega
    have ct2 : ((h1 : Int)).toNat = h1 := by omega
    cases hu : T1 a1 with
    | none =>
      rw [hu] at c0
      simp only [eU] at c0
      have hRR : T1 = R := by
        cases f with
        | zero => omega
        | succ f => rw [← hR]; unfold Ix.sh; rw [hu]
      have FIN := hid (show Rx wr X P n room R ∧ Kp (fun b => b = X ∨ b = P) w wr from ⟨hRR ▸ hL, HM.out.kp⟩)
      clear hg hd hR hL ha hh hha c1 c2 hu hRR HM
      go_wp2_with fail
      go_ret2
      exact ⟨rfl, by rw [HRE.out]; exact FIN.out⟩
    | some p =>
      obtain ⟨k1, v1⟩ := p
      rw [hu] at c0 c1 c2
      simp only [eU, eK, eV] at c0 c1 c2
      have hkk := hm_lt (n := n) (by omega) k1
      have hH := RHome_any hL k1
      have hB := behindC hL.rc hmost hkk hh ha
      have hae : a1 ≠ e := by intro hx; subst hx; rw [hg.free] at hu; cases hu
      have hdn := Ix.ds_from_nx ha HE.out hae
      obtain ⟨f, rfl⟩ : ∃ f', f = f' + 1 := ⟨f - 1, by omega⟩
      by_cases hs : Ix.ds n h1 a1 ≤ Ix.ds n (hm n k1) a1
      · have hdec : decide (Ix.ds n (hm n k1) a1 < Ix.ds n h1 a1) = false := decide_eq_false (by omega)
        rw [hdec] at hB
        have hR2 : Ix.sh n (hm n) f (Ix.up (Ix.up T1 h1 (some (k1, v1))) a1 none) a1 (Ix.nx n a1) = R := by
          rw [← hR]; conv => rhs; unfold Ix.sh
          rw [hu]; simp only [hs, if_true]
        have hg9 := hg.move (fun k => hm_lt (by omega) k) hu hs
        have hL2 := (((hL.rc.set hh (some (k1, v1))).set ha none).kp (Kp.drew (fun _ => False) _) (fun h => h) (fun h => h))
        simp only [eU, eK, eV] at hL2
        have hcm := Ix.cnt_move hg.hole_lt hg.a_lt (Ne.symm hha) hg.noh hu
        have hRx2 := hL.ofLc hL2 (by rw [hcm]) (by rw [hcm]; exact hL.le) (by
          intro j k' v' hj ej
          by_cases hja : j = a1
          · subst hja; rw [Ix.up_same] at ej; cases ej
          · rw [Ix.up_other _ _ hja] at ej
            by_cases hjh : j = h1
            · subst hjh; rw [Ix.up_same] at ej; cases ej; exact hL.keys a1 _ _ ha hu
            · rw [Ix.up_other _ _ hjh] at ej; exact hL.keys j k' v' hj ej)
        have NEXT := hid (show Mw w X P n room R e a1 (Ix.nx n a1) (w3 (w3 wr P h1 (.bool true) (.int .u64 k1) (.int .i64 v1)) P a1 (.bool false) (.int .u64 0) (.int .i64 0)).drew from
          ⟨⟨_, f, hg9, by omega, hR2, hRx2⟩, ((HM.out.kp.trans (Kp.w3 (B := fun b => b = X ∨ b = P) (.inr rfl) _ _ _ _)).trans (Kp.w3 (B := fun b => b = X ∨ b = P) (.inr rfl) _ _ _ _)).trans (Kp.drew _ _)⟩)
        have hN := rnextC hRx2.rc hmost ha
        have HME := hid (show Ix.ds n (Ix.nx n a1) e < Ix.ds n a1 e by omega)
        have g0 := hL.pl.frozen (h1 * 3)
        have g1 := hL.pl.frozen (h1 * 3 + 1)
        have g2 := hL.pl.frozen (h1 * 3 + 2)
        have g3 := hL.pl.frozen (a1 * 3)
        have g4 := hL.pl.frozen (a1 * 3 + 1)
        have g5 := hL.pl.frozen (a1 * 3 + 2)
        obtain ⟨d0, d1, d2⟩ := hL.pl.cell hh
        have o1 : ¬ a1 * 3 = h1 * 3 := by omega
        have o2 : ¬ a1 * 3 = h1 * 3 + 1 := by omega
        have o3 : ¬ a1 * 3 = h1 * 3 + 2 := by omega
        have o4 : ¬ a1 * 3 + 1 = h1 * 3 := by omega
        have o5 : ¬ a1 * 3 + 1 = h1 * 3 + 1 := by omega
        have o6 : ¬ a1 * 3 + 1 = h1 * 3 + 2 := by omega
        have o7 : ¬ a1 * 3 + 2 = h1 * 3 := by omega
        have o8 : ¬ a1 * 3 + 2 = h1 * 3 + 1 := by omega
        have o9 : ¬ a1 * 3 + 2 = h1 * 3 + 2 := by omega
        obtain ⟨z3, hz3⟩ : ∃ z, hm n k1 = z := ⟨_, rfl⟩
        obtain ⟨z4, hz4⟩ : ∃ z, Ix.nx n a1 = z := ⟨_, rfl⟩
        rw [hz3] at hB hH
        rw [hz4] at hN NEXT HME
        clear hg hd hR hL ha hh hha hu HM hkk hae hdn hs hR2 hL2 hz3 hz4 hg9 hcm hRx2 hdec
        go_wp2_with (first | (go_at_call 14; with_reducible refine hH.mono ?_; rintro e9 w9 ⟨rfl, h9⟩; subst w9) | (go_at_call 40; with_reducible refine hB.mono ?_; rintro e9 w9 ⟨rfl, h9⟩; subst w9))
        go_region
        go_wp2_with (first | (go_at_call 39; with_reducible refine hN.mono ?_; rintro e9 w9 ⟨rfl, h9⟩; subst w9))
        go_roundw
        case rel => exact ⟨a1, z4, rfl, rfl, NEXT⟩
        case measure => simpa [intOf] using HME.out
      · have hdec : decide (Ix.ds n (hm n k1) a1 < Ix.ds n h1 a1) = true := decide_eq_true (by omega)
        rw [hdec] at hB
        have hR2 : Ix.sh n (hm n) f T1 h1 (Ix.nx n a1) = R := by
          rw [← hR]; conv => rhs; unfold Ix.sh
          rw [hu]; simp only [hs, if_false]
        have NEXT := hid (show Mw w X P n room R e h1 (Ix.nx n a1) wr from
          ⟨⟨T1, f, hg.stay (fun k => hm_lt (by omega) k) hu hs, by omega, hR2, hL⟩, HM.out.kp⟩)
        have hN := rnextC hL.rc hmost ha
        have HME := hid (show Ix.ds n (Ix.nx n a1) e < Ix.ds n a1 e by omega)
        obtain ⟨z3, hz3⟩ : ∃ z, hm n k1 = z := ⟨_, rfl⟩
        obtain ⟨z4, hz4⟩ : ∃ z, Ix.nx n a1 = z := ⟨_, rfl⟩
        rw [hz3] at hB hH
        rw [hz4] at hN NEXT HME
        clear hg hd hR hL ha hh hha hu HM hkk hae hdn hs hR2 hz3 hz4 hdec
        go_wp2_with (first | (go_at_call 14; with_reducible refine hH.mono ?_; rintro e9 w9 ⟨rfl, h9⟩; subst w9) | (go_at_call 40; with_reducible refine hB.mono ?_; rintro e9 w9 ⟨rfl, h9⟩; subst w9) | (go_at_call 39; with_reducible refine hN.mono ?_; rintro e9 w9 ⟨rfl, h9⟩; subst w9))
        go_roundw
        case rel => exact ⟨h1, z4, rfl, rfl, NEXT⟩
        case measure => simpa [intOf] using HME.out
set_option maxHeartbeats 2000000 in
set_option maxRecDepth 100000 in
theorem rdrop_none {w : World} {X P n room : Nat} {T : Ix.Tab} (h : Rx w X P n room T) {k : Int} {i : Nat} (hF : Ix.Fd n (hm n) T k i) (hi : T i = none) :
    Calls Try.prog 28 #[.pointer (some ⟨X, 0, none⟩), .int .u64 k] w fun e w' => e = .returned (.tuple #[.int .i64 0, .bool false]) ∧ Kp (fun _ => False) w w' := by
  have HC := hid (rfind_any h k)
  have HF := hid hF
  have HI := hid hi
  have hk := hm_lt (n := n) (by have := h.pos; omega) k
  have HKN := hid hk
  clear h hF hi hk
  go_enter Try.func28, Try.ntmps28
  go_wp2_with (first | (go_at_call 38; with_reducible refine (HC.out).mono ?_; rintro e9 w9 ⟨i', rfl, hF', hK⟩; have hii := Ix.Fd.uniq HKN.out hF' HF.out; subst i'; have HK := hid hK; clear hF' hK; rw [HI.out]; simp only [eU]; refine Hid.out ?_))
  refine hid ?_
  go_wp2_with fail
  go_ret2
  exact ⟨rfl, HK.out⟩
end Go.Proofs.Ythidnipmkffilaa
