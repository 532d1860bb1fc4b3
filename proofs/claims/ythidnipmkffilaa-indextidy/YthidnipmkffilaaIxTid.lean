/-
  tidy.
-/
import Derived.Test.YthidnipmkffilaaIxL
import Derived.Deep.Cut
namespace Go.Proofs.Ythidnipmkffilaa
open Go.RowKit Go.Deep
set_option linter.unusedVariables false
set_option linter.unusedSimpArgs false
/-- what stands between two places. -/
structure Td (w : World) (X P n room : Nat) (T : Ix.Tab) (S : Nat) (wr : World) : Prop where
  kp : Kp (fun _ => False) w wr
  sl : Sl wr S n T n
  lx : Lx wr X P n room T
theorem Td.step {w : World} {X P n room : Nat} {T : Ix.Tab} {S : Nat} {wr wq : World} (h : Td w X P n room T S wr) (k : Kp (fun _ => False) wr wq) : Td w X P n room T S wq :=
  ⟨h.kp.trans k, h.sl.kp k (fun h => h), h.lx.kp k (fun h => h) (fun h => h)⟩
set_option maxHeartbeats 8000000 in
set_option maxRecDepth 1000000 in
theorem tidy_any {w : World} {X P n room : Nat} {T : Ix.Tab} (h : Lx w X P n room T) (ht : Ix.Tidy n (hm n) T) :
    Calls Try.prog 22 #[.pointer (some ⟨X, 0, none⟩)] w fun e w' => e = .returned (.bool true) ∧ Kp (fun _ => False) w w' := by
  have HSL := hid (slots_any h)
  have HL := hid h
  have HT := hid ht
  have hmost := h.most
  have HPOS := hid h.pos
  clear h ht
  go_enter Try.func22, Try.ntmps22
  go_wp2_with (first | (go_at_call 12; with_reducible refine (HSL.out).mono ?_; rintro e w1 ⟨S, rfl, hS, hSl, hB⟩; have HD := hid (Td.mk (Kp.ofBelow _ hB) hSl (HL.out.kp (Kp.ofBelow (fun _ => False) hB) (fun h => h) (fun h => h))); clear hSl hB hS; refine Hid.out ?_))
  clear HSL
  refine hid ?_
  go_wp2_with fail
  go_loopw [4, 5] (fun uv iv wr => ∃ i : Nat, i ≤ n ∧ uv = .int .i64 (Ix.cnt T i) ∧ iv = .int .i64 i ∧ Hid (Td w X P n room T S wr)) (fun _ iv _ => n - (intOf iv).toNat)
  case atStart => exact ⟨0, Nat.zero_le _, rfl, rfl, HD⟩
  case round =>
    obtain ⟨i, hi, rfl, rfl, HI⟩ := hrel
    clear HD
    by_cases hin : i < n
    · obtain ⟨c0, c1⟩ := HI.out.sl.cell hin hin
      have f1 : (i : Int) < (n : Int) := by omega
      have f2 : (0 : Int) ≤ (i : Int) := by omega
      have ct1 : ((i : Int)).toNat = i := by omega
      have wj : IntKind.i64.wrap ((i : Int) + 1) = ((i + 1 : Nat) : Int) := by simp [IntKind.wrap, IntKind.bits, IntKind.signed]; omega
      have HJM := hid (show i + 1 ≤ n ∧ n - (i + 1) < n - i by omega)
      obtain ⟨j1, hj1⟩ : ∃ j1, i + 1 = j1 := ⟨_, rfl⟩
      rw [hj1] at wj HJM
      have hcs : Ix.cnt T j1 = Ix.cnt T i + (if (T i).isSome then 1 else 0) := by rw [← hj1]; rfl
      have hcle := Ix.cnt_le T i
      have HCS := hid hcs
      have HIN := hid hin
      obtain ⟨u, hu⟩ : ∃ u, Ix.cnt T i = u := ⟨_, rfl⟩
      rw [hu] at hcs HCS hcle ⊢
      cases hTi : T i with
      | none =>
        rw [hTi] at c0 c1 HCS
        simp only [eU, eK] at c0 c1
        clear hi hin hj1 hcs hu hTi hcle
        go_wp2_with fail
        go_roundw
        case rel => exact ⟨j1, HJM.out.1, by rw [HCS.out]; simp, rfl, HI⟩
        case measure => simpa [intOf] using HJM.out.2
      | some p =>
        obtain ⟨k, v⟩ := p
        rw [hTi] at c0 c1 HCS
        simp only [eU, eK] at c0 c1
        have hub : (u : Int) + 1 ≤ 131073 := by omega
        have HTI := hid hTi
        have HF := hid (HT.out.found hin hTi)
        have hk := hm_lt (n := n) (by omega) k
        have HKN := hid hk
        have hkr := HI.out.lx.keys i k v hin hTi
        clear hi hin hj1 hcs hu hTi hcle hk
        have HG1 := hid (get_any HI.out.lx k)
        go_wp2_with (first | (go_at_call 21; with_reducible refine (HG1.out).mono ?_; rintro e w2 ⟨i', rfl, hF, hK⟩; have hii := Ix.Fd.uniq HKN.out hF HF.out; subst i'; rw [HTI.out]; simp only [eU, eV]; have HI2 := hid (HI.out.step hK); clear hF hK; refine Hid.out ?_))
        obtain ⟨c0, c1⟩ := HI2.out.sl.cell HIN.out HIN.out
        rw [HTI.out] at c0 c1
        simp only [eU, eK] at c0 c1
        have HG2 := hid (get_any HI2.out.lx k)
        refine hid ?_
        go_wp2_with (first | (go_at_call 21; with_reducible refine (HG2.out).mono ?_; rintro e w3 ⟨i2, rfl, hF, hK⟩; have hii := Ix.Fd.uniq HKN.out hF HF.out; subst i2; rw [HTI.out]; simp only [eU, eV]; have HI3 := hid (HI2.out.step hK); clear hF hK; refine Hid.out ?_))
        obtain ⟨c0, c1⟩ := HI3.out.sl.cell HIN.out HIN.out
        rw [HTI.out] at c0 c1
        simp only [eU, eK] at c0 c1
        have HH := hid (Home_any HI3.out.lx k)
        have vv : (v == v) = true := by simp
        refine hid ?_
        go_wp2_with (first | (go_at_call 13; with_reducible refine (HH.out).mono ?_; rintro e w9 ⟨rfl, h9⟩; subst w9; refine Hid.out ?_))
        refine hid ?_
        clear HG1 HG2 HH
        have KI : Hid (u + 1 = Ix.cnt T j1) := by rw [HCS.out]; rfl
        go_wp2_with fail
        go_loopw [10] (fun kv wq => ∃ a : Nat, kv = .int .i64 a ∧ a < n ∧ Hid (Ix.ds n (hm n k) a ≤ Ix.ds n (hm n k) i) ∧ Hid (Td w X P n room T S wq)) (fun kv _ => Ix.ds n (intOf kv).toNat i)
        case atStart => exact ⟨_, rfl, HKN.out, hid (by rw [Ix.ds_self]; omega), HI3⟩
        case round =>
          obtain ⟨a, rfl, ha, HA, HQ⟩ := hrel
          by_cases hai : a = i
          · subst hai
            have aa : ((a : Int) == (a : Int)) = true := by simp
            clear c0 c1
            go_wp2_with fail
            refine ⟨⟨j1, HJM.out.1, by rw [← KI.out]; rfl, rfl, HQ⟩, by simpa [intOf] using HJM.out.2⟩
          · have hin := HIN.out
            have hlt : Ix.ds n (hm n k) a < Ix.ds n (hm n k) i := by
              have h1 := HA.out
              rcases Nat.lt_or_ge (Ix.ds n (hm n k) a) (Ix.ds n (hm n k) i) with h2 | h2
              · exact h2
              · exact absurd (Ix.ds_inj HKN.out ha hin (by omega)) hai
            obtain ⟨k', v', hTa, hne⟩ := HF.out.ahead a ha hlt
            obtain ⟨e0, e1⟩ := HQ.out.sl.cell ha ha
            obtain ⟨g0, g1⟩ := HQ.out.sl.cell hin hin
            rw [hTa] at e0 e1
            rw [HTI.out] at g0 g1
            simp only [eU, eK] at e0 e1 g0 g1
            have kk : (k' == k) = false := by simpa using hne
            have na : ((a : Int) == (i : Int)) = false := by simp; omega
            have q1 : ¬ (a : Int) < 0 := by omega
            have q2 : (a : Int) < (n : Int) := by omega
            have q3 : (0 : Int) ≤ (a : Int) := by omega
            have q4 : ¬ (n : Int) ≤ (a : Int) := by omega
            have ct2 : ((a : Int)).toNat = a := by omega
            have hnx := Ix.ds_nx HKN.out ha (by have := Ix.ds_lt HKN.out hin; omega)
            have hdn := Ix.ds_from_nx ha hin hai
            have hmod : ((a : Int) + 1).tmod (n : Int) = (Ix.nx n a : Int) := by
              rw [Int.tmod_eq_emod_of_nonneg (by omega)]; exact nx_mod ha
            have hmod2 : ((a : Int) + 1) % (n : Int) = (Ix.nx n a : Int) := nx_mod ha
            have n0 : ¬ (n : Int) = 0 := by omega
            have HNX := hid (show Ix.nx n a < n ∧ Ix.ds n (hm n k) (Ix.nx n a) ≤ Ix.ds n (hm n k) i ∧ Ix.ds n (Ix.nx n a) i < Ix.ds n a i from ⟨Ix.nx_lt ha, by omega, by omega⟩)
            obtain ⟨a2, ha2⟩ : ∃ a2, Ix.nx n a = a2 := ⟨_, rfl⟩
            rw [ha2] at hmod hmod2 HNX
            clear hlt hTa hne hnx hdn ha hai hin ha2 c0 c1
            have d1 : decide ((a : Int) < 0) = false := decide_eq_false q1
            have d2 : decide ((n : Int) ≤ (a : Int)) = false := decide_eq_false q4
            go_upto_region 15 with fail
            go_big_quiet (fail)
            go_wp2_with fail
            go_roundw
            case rel => exact ⟨a2, rfl, HNX.out.1, hid HNX.out.2.1, hid (HQ.out.step (Kp.drewN _ _ _))⟩
            case measure => simpa [intOf] using HNX.out.2.2
    · have hn : i = n := by omega
      subst hn
      have f1 : ¬ (i : Int) < (i : Int) := by omega
      have HN := hid (len_any HI.out.lx)
      have uu : ((Ix.cnt T i : Int) == (Ix.cnt T i : Int)) = true := by simp
      clear hi hin
      go_wp2_with (first | (go_at_call 11; with_reducible refine (HN.out).mono ?_; rintro e w9 ⟨rfl, h9⟩; subst w9))
      go_ret
      exact ⟨rfl, HI.out.kp⟩
end Go.Proofs.Ythidnipmkffilaa
