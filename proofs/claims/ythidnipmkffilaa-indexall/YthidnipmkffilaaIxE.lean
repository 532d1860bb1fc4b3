/-
  What stands behind a hole moves up; Drop.
-/
import Derived.Test.YthidnipmkffilaaIxD
namespace Go.Proofs.Ythidnipmkffilaa
open Go.RowKit Go.Deep
set_option linter.unusedVariables false
set_option linter.unusedSimpArgs false
/-- what stands between two rounds of the moving up. -/
structure Mv (w : World) (X P n room : Nat) (c : Int) (R : Ix.Tab) (e hole a : Nat) (wr : World) : Prop where
  ex : ∃ (T : Ix.Tab) (s : Option (Int × Int)) (f : Nat), Ix.Gap n (hm n) T hole a e ∧ Ix.ds n a e < f ∧ Ix.sh n (hm n) f T hole a = R ∧ Lc wr X P n room c (Ix.up T hole s) ∧ (∀ i k v, i < n → T i = some (k, v) → 0 ≤ k ∧ k ≤ 18446744073709551615)
  kp : Kp (fun b => b = P) w wr
set_option maxHeartbeats 2000000 in
set_option maxRecDepth 100000 in
theorem empty_any {w : World} {X P n room : Nat} {T : Ix.Tab} (h : Lx w X P n room T) (ht : Ix.Tidy n (hm n) T) {hole : Nat} {k v : Int} (hl : hole < n) (eh : T hole = some (k, v)) :
    Calls Try.prog 34 #[.pointer (some ⟨X, 0, none⟩), .int .i64 hole] w fun e w' => e = .returned (.tuple #[]) ∧ Lc w' X P n room (Ix.cnt T n) (Ix.dr n (hm n) T hole) ∧ Kp (fun b => b = P) w w' := by
  obtain ⟨e, he, hne, hf⟩ := Ix.cnt_free2 (T := Ix.up T hole none) hl (by have := Ix.cnt_cut hl eh; have := h.le; have := h.two; have := h.one; omega)
  have hf' : T e = none := by rw [Ix.up_other _ _ hne] at hf; exact hf
  have hgap := ht.gap h.pos hl eh he (Ne.symm hne) hf'
  have hmv : Mv w X P n room (Ix.cnt T n) (Ix.dr n (hm n) T hole) e hole (Ix.nx n hole) w := by
    refine ⟨⟨Ix.up T hole none, T hole, n, hgap, Ix.ds_lt (Ix.nx_lt hl) he, rfl, ?_, ?_⟩, Kp.refl _ _⟩
    · rw [Ix.up_up, Ix.up_id]; exact h.lc
    · intro i k' v' hi ei
      by_cases hih : i = hole
      · subst hih; rw [Ix.up_same] at ei; cases ei
      · rw [Ix.up_other _ _ hih] at ei; exact h.keys i k' v' hi ei
  have HMV := hid hmv
  have hC := next_any h hl
  have HPOW := hid h.pow
  have hmost := h.most
  have HPOS := hid h.pos
  have HEL := hid he
  generalize Ix.dr n (hm n) T hole = R at *
  generalize (Ix.cnt T n : Int) = c at *
  obtain ⟨a0, ha0⟩ : ∃ a0, Ix.nx n hole = a0 := ⟨_, rfl⟩
  rw [ha0] at hC HMV
  clear h ht eh hf hf' hgap hmv hne ha0 hl he
  go_enter Try.func34, Try.ntmps34
  go_wp2_with (first | (go_at_call 44; with_reducible refine hC.mono ?_; rintro e9 w9 ⟨rfl, h9⟩; subst w9))
  go_loopw [1, 4] (fun hv av wr => ∃ h1 a1 : Nat, hv = .int .i64 h1 ∧ av = .int .i64 a1 ∧ Hid (Mv w X P n room c R e h1 a1 wr)) (fun _ av _ => Ix.ds n (intOf av).toNat e)
  case atStart => exact ⟨hole, a0, rfl, rfl, HMV⟩
  case round =>
    obtain ⟨h1, a1, rfl, rfl, HM⟩ := hrel
    clear HMV hC
    obtain ⟨T1, s1, f, hg, hd, hR, hL, hk1⟩ := HM.out.ex
    have ha : a1 < n := hg.a_lt
    have hh : h1 < n := hg.hole_lt
    have hha : a1 ≠ h1 := by intro hx; subst hx; have := hg.pos; rw [Ix.ds_self] at this; omega
    obtain ⟨c0, c1, c2⟩ := hL.pl.cell ha
    rw [Ix.up_other _ _ hha] at c0 c1 c2
    have hc := hL.cells.2.2
    have f2 : (a1 : Int) < (n : Int) := by omega
    have f3 : (0 : Int) ≤ (a1 : Int) := by omega
    have ct1 : ((a1 : Int)).toNat = a1 := by omega
    have f4 : (h1 : Int) < (n : Int) := by omega
    have f5 : (0 : Int) ≤ (h1 : Int) := by omega
    have ct2 : ((h1 : Int)).toNat = h1 := by omega
    have g0 := hL.pl.frozen (h1 * 3)
    have g1 := hL.pl.frozen (h1 * 3 + 1)
    have g2 := hL.pl.frozen (h1 * 3 + 2)
    obtain ⟨d0, d1, d2⟩ := hL.pl.cell hh
    cases hu : T1 a1 with
    | none =>
      rw [hu] at c0
      simp only [eU] at c0
      have hRR : T1 = R := by
        cases f with
        | zero => omega
        | succ f => rw [← hR]; unfold Ix.sh; rw [hu]
      have FIN := hid (show Lc (w3 wr P h1 (.bool false) (.int .u64 0) (.int .i64 0)) X P n room c R ∧ Kp (fun b => b = P) w (w3 wr P h1 (.bool false) (.int .u64 0) (.int .i64 0)) from by
        refine ⟨?_, HM.out.kp.trans (Kp.w3 (B := fun b => b = P) rfl _ _ _ _)⟩
        have := hL.set hh none
        rw [Ix.up_up] at this
        have e2 : Ix.up T1 h1 none = R := by rw [← hg.noh, Ix.up_id, hRR]
        rw [e2] at this
        exact this)
      clear hg hd hR hL hk1 ha hh hha c1 c2 hu hRR HM
      go_wp2_with fail
      go_end0
      exact ⟨rfl, FIN.out⟩
    | some p =>
      obtain ⟨k1, v1⟩ := p
      rw [hu] at c0 c1 c2
      simp only [eU, eK, eV] at c0 c1 c2
      have hkk := hm_lt (n := n) (by omega) k1
      have hH := HomeC hL hmost k1
      have hS1 := stepsC hL HPOW.out hmost hkk ha
      have hS2 := stepsC hL HPOW.out hmost hh ha
      have hae : a1 ≠ e := by intro hx; subst hx; rw [hg.free] at hu; cases hu
      have hdn := Ix.ds_from_nx ha HEL.out hae
      obtain ⟨f, rfl⟩ : ∃ f', f = f' + 1 := ⟨f - 1, by omega⟩
      by_cases hs : Ix.ds n h1 a1 ≤ Ix.ds n (hm n k1) a1
      · have hR2 : Ix.sh n (hm n) f (Ix.up (Ix.up T1 h1 (some (k1, v1))) a1 none) a1 (Ix.nx n a1) = R := by
          rw [← hR]; conv => rhs; unfold Ix.sh
          rw [hu]; simp only [hs, if_true]
        have hL2 := (hL.set hh (some (k1, v1))).kp (Kp.drew (fun _ => False) _) (fun h => h) (fun h => h)
        rw [Ix.up_up] at hL2
        simp only [eU, eK, eV] at hL2
        have NEXT := hid (show Mv w X P n room c R e a1 (Ix.nx n a1) (w3 wr P h1 (.bool true) (.int .u64 k1) (.int .i64 v1)).drew from by
          refine ⟨⟨_, some (k1, v1), f, hg.move (fun k => hm_lt (by omega) k) hu hs, by omega, hR2, ?_, ?_⟩, (HM.out.kp.trans (Kp.w3 (B := fun b => b = P) rfl _ _ _ _)).trans (Kp.drew _ _)⟩
          · rw [Ix.up_up]
            have e3 : Ix.up (Ix.up T1 h1 (some (k1, v1))) a1 (some (k1, v1)) = Ix.up T1 h1 (some (k1, v1)) := by
              have : Ix.up T1 h1 (some (k1, v1)) a1 = some (k1, v1) := by rw [Ix.up_other _ _ hha]; exact hu
              have h2 := Ix.up_id (Ix.up T1 h1 (some (k1, v1))) a1
              rw [this] at h2; exact h2
            rw [e3]; exact hL2
          · intro i k' v' hi ei
            by_cases hia : i = a1
            · subst hia; rw [Ix.up_same] at ei; cases ei
            · rw [Ix.up_other _ _ hia] at ei
              by_cases hih : i = h1
              · subst hih; rw [Ix.up_same] at ei; cases ei; exact hk1 a1 _ _ ha hu
              · rw [Ix.up_other _ _ hih] at ei; exact hk1 i k' v' hi ei)
        have hN := nextC hL2 HPOW.out hmost ha
        have HME := hid (show Ix.ds n (Ix.nx n a1) e < Ix.ds n a1 e by omega)
        have hs' : (Ix.ds n h1 a1 : Int) ≤ (Ix.ds n (hm n k1) a1 : Int) := by omega
        have hXP := hL.neXP
        have hPX := Ne.symm hXP
        obtain ⟨z1, hz1⟩ : ∃ z, Ix.ds n h1 a1 = z := ⟨_, rfl⟩
        obtain ⟨z2, hz2⟩ : ∃ z, Ix.ds n (hm n k1) a1 = z := ⟨_, rfl⟩
        obtain ⟨z3, hz3⟩ : ∃ z, hm n k1 = z := ⟨_, rfl⟩
        obtain ⟨z4, hz4⟩ : ∃ z, Ix.nx n a1 = z := ⟨_, rfl⟩
        rw [hz1] at hS2 hs'
        rw [hz2] at hS1 hs'
        rw [hz3] at hS1 hH
        rw [hz4] at hN NEXT HME
        clear hg hd hR hL hk1 ha hh hha hu HM hkk hae hdn hs hR2 hL2 hz1 hz2 hz3 hz4
        go_wp2_with (first | (go_at_call 13; with_reducible refine hH.mono ?_; rintro e9 w9 ⟨rfl, h9⟩; subst w9) | (go_at_call 45; first | (with_reducible refine hS1.mono ?_; rintro e9 w9 ⟨rfl, h9⟩; subst w9) | (with_reducible refine hS2.mono ?_; rintro e9 w9 ⟨rfl, h9⟩; subst w9)))
        go_region
        go_wp2_with (first | (go_at_call 44; with_reducible refine hN.mono ?_; rintro e9 w9 ⟨rfl, h9⟩; subst w9))
        go_roundw
        case rel => exact ⟨a1, z4, rfl, rfl, NEXT⟩
        case measure => simpa [intOf] using HME.out
      · have hR2 : Ix.sh n (hm n) f T1 h1 (Ix.nx n a1) = R := by
          rw [← hR]; conv => rhs; unfold Ix.sh
          rw [hu]; simp only [hs, if_false]
        have NEXT := hid (show Mv w X P n room c R e h1 (Ix.nx n a1) wr from
          ⟨⟨T1, s1, f, hg.stay (fun k => hm_lt (by omega) k) hu hs, by omega, hR2, hL, hk1⟩, HM.out.kp⟩)
        have hN := nextC hL HPOW.out hmost ha
        have HME := hid (show Ix.ds n (Ix.nx n a1) e < Ix.ds n a1 e by omega)
        have hs' : ¬ (Ix.ds n h1 a1 : Int) ≤ (Ix.ds n (hm n k1) a1 : Int) := by omega
        obtain ⟨z1, hz1⟩ : ∃ z, Ix.ds n h1 a1 = z := ⟨_, rfl⟩
        obtain ⟨z2, hz2⟩ : ∃ z, Ix.ds n (hm n k1) a1 = z := ⟨_, rfl⟩
        obtain ⟨z3, hz3⟩ : ∃ z, hm n k1 = z := ⟨_, rfl⟩
        obtain ⟨z4, hz4⟩ : ∃ z, Ix.nx n a1 = z := ⟨_, rfl⟩
        rw [hz1] at hS2 hs'
        rw [hz2] at hS1 hs'
        rw [hz3] at hS1 hH
        rw [hz4] at hN NEXT HME
        clear hg hd hR hL hk1 ha hh hha hu HM hkk hae hdn hs hR2 hz1 hz2 hz3 hz4
        go_wp2_with (first | (go_at_call 13; with_reducible refine hH.mono ?_; rintro e9 w9 ⟨rfl, h9⟩; subst w9) | (go_at_call 45; first | (with_reducible refine hS1.mono ?_; rintro e9 w9 ⟨rfl, h9⟩; subst w9) | (with_reducible refine hS2.mono ?_; rintro e9 w9 ⟨rfl, h9⟩; subst w9)) | (go_at_call 44; with_reducible refine hN.mono ?_; rintro e9 w9 ⟨rfl, h9⟩; subst w9))
        go_roundw
        case rel => exact ⟨h1, z4, rfl, rfl, NEXT⟩
        case measure => simpa [intOf] using HME.out
set_option maxHeartbeats 2000000 in
set_option maxRecDepth 100000 in
theorem drop_none {w : World} {X P n room : Nat} {T : Ix.Tab} (h : Lx w X P n room T) {k : Int} {i : Nat} (hF : Ix.Fd n (hm n) T k i) (hi : T i = none) :
    Calls Try.prog 19 #[.pointer (some ⟨X, 0, none⟩), .int .u64 k] w fun e w' => e = .returned (.tuple #[.int .i64 0, .bool false]) ∧ Kp (fun _ => False) w w' := by
  have HC := hid (find_any h k)
  have HF := hid hF
  have HI := hid hi
  have hk := hm_lt (n := n) (by have := h.pos; omega) k
  have HKN := hid hk
  clear h hF hi hk
  go_enter Try.func19, Try.ntmps19
  go_wp2_with (first | (go_at_call 33; with_reducible refine (HC.out).mono ?_; rintro e9 w9 ⟨i', rfl, hF', hK⟩; have hii := Ix.Fd.uniq HKN.out hF' HF.out; subst i'; have HK := hid hK; clear hF' hK; rw [HI.out]; simp only [eU]; refine Hid.out ?_))
  refine hid ?_
  go_wp2_with fail
  go_ret2
  exact ⟨rfl, HK.out⟩
set_option maxHeartbeats 2000000 in
set_option maxRecDepth 100000 in
theorem drop_there {w : World} {X P n room : Nat} {T : Ix.Tab} (h : Lx w X P n room T) (ht : Ix.Tidy n (hm n) T) {k v : Int} {i : Nat} (hil : i < n) (hi : T i = some (k, v)) :
    Calls Try.prog 19 #[.pointer (some ⟨X, 0, none⟩), .int .u64 k] w fun e w' => e = .returned (.tuple #[.int .i64 v, .bool true]) ∧ Lx w' X P n room (Ix.dr n (hm n) T i) ∧ Ix.Tidy n (hm n) (Ix.dr n (hm n) T i) ∧ (∀ k' v', Ix.Has n (Ix.dr n (hm n) T i) k' v' ↔ k' ≠ k ∧ Ix.Has n T k' v') ∧ Ix.cnt (Ix.dr n (hm n) T i) n + 1 = Ix.cnt T n ∧ Kp (fun b => b = X ∨ b = P) w w' := by
  have HC := hid (find_any h k)
  have HF := hid (ht.found hil hi)
  have hk := hm_lt (n := n) (by have := h.pos; omega) k
  have HKN := hid hk
  obtain ⟨e, he, hne, hf⟩ := Ix.cnt_free2 (T := Ix.up T i none) hil (by have := Ix.cnt_cut hil hi; have := h.le; have := h.two; have := h.one; omega)
  have hf' : T e = none := by rw [Ix.up_other _ _ hne] at hf; exact hf
  have HD := hid (ht.drop (fun k => hm_lt (by have := h.pos; omega) k) h.pos hil hi he (Ne.symm hne) hf')
  have HKEYS := hid (show ∀ j k' v', j < n → Ix.dr n (hm n) T i j = some (k', v') → 0 ≤ k' ∧ k' ≤ 18446744073709551615 from by
    intro j k' v' hj ej
    obtain ⟨_, j', hj', ej'⟩ := (HD.out.2.1 k' v').1 ⟨j, hj, ej⟩
    exact h.keys j' k' v' hj' ej')
  have HL := hid h
  have HT := hid ht
  have HI := hid hi
  have HIL := hid hil
  clear h ht hi hk hne hf hf' he
  go_enter Try.func19, Try.ntmps19
  go_wp2_with (first | (go_at_call 33; with_reducible refine (HC.out).mono ?_; rintro e9 w9 ⟨i', rfl, hF', hK⟩; have hii := Ix.Fd.uniq HKN.out hF' HF.out; subst i'; have HK := hid hK; clear hF' hK; rw [HI.out]; simp only [eU]; refine Hid.out ?_))
  have L9 := HL.out.kp HK.out (fun h => h) (fun h => h)
  have HL9 := hid L9
  obtain ⟨c0, c1, c2⟩ := L9.pl.cell hil
  rw [HI.out] at c2
  simp only [eV] at c2
  have hc := L9.cells.2.2
  have hmost := L9.most
  have f2 : (i : Int) < (n : Int) := by omega
  have f3 : (0 : Int) ≤ (i : Int) := by omega
  have ct1 : ((i : Int)).toNat = i := by omega
  have HE := hid (empty_any L9 HT.out hil HI.out)
  clear L9 c0 c1 hil
  refine hid ?_
  go_wp2_with (first | (go_at_call 34; with_reducible refine (HE.out).mono ?_; rintro e9 w8 ⟨rfl, hL8, hK8⟩; have HL8 := hid hL8; have HK8 := hid hK8; clear hL8 hK8; refine Hid.out ?_))
  have x1 := HL8.out.cells.2.1
  have x2 := HL8.out.frozen 1
  have hcn := HD.out.2.2
  have hle := HL9.out.le
  have htw := HL9.out.two
  obtain ⟨c, hcc⟩ : ∃ c, Ix.cnt T n = c + 1 := ⟨_, hcn.symm⟩
  have hcq : Ix.cnt (Ix.dr n (hm n) T i) n = c := by rw [hcc] at hcn; exact Nat.succ.inj hcn
  have hcb : c ≤ room := by rw [hcc] at hle; omega
  have hcb2 : (c : Int) ≤ 131072 := by omega
  have wc : wrap64 (c : Int) = (c : Int) := by unfold wrap64; omega
  rw [hcc] at x1
  have FIN := hid (HL9.out.ofLc (HL8.out.count (c : Int)) (by rw [hcq]) (by rw [hcq]; exact hcb) HKEYS.out)
  have FK := hid (show Kp (fun b => b = X ∨ b = P) w (w8.setCell ⟨X, 1, none⟩ (.int .i64 (c : Int))) from ((HK.out.mono (fun _ _ h => h.elim)).trans (HK8.out.mono (fun _ _ h => .inr h))).trans (Kp.setCell (.inl rfl) _ _))
  clear hcn hcc hle htw hcq hcb
  refine hid ?_
  go_wp2_with fail
  go_ret2
  exact ⟨rfl, FIN.out, HD.out.1, HD.out.2.1, HD.out.2.2, FK.out⟩
end Go.Proofs.Ythidnipmkffilaa
