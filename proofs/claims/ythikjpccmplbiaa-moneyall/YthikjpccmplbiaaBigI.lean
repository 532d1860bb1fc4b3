/-
  The document's rounded.
-/
import Derived.Test.YthikjpccmplbiaaBigH
import Derived.Test.YthikjpccmplbiaaPart
namespace Go.Proofs.Ythikjpccmplbiaa
open Go.RowKit BigM
set_option linter.unusedVariables false

theorem cmpI_cases (x y : Int) : (cmpI x y = 1 ∧ y < x) ∨ (cmpI x y = 0 ∧ x = y) ∨ (cmpI x y = -1 ∧ x < y) := by
  unfold cmpI
  by_cases h : x < y
  · right; right; exact ⟨if_pos h, h⟩
  · by_cases h2 : y < x
    · left; exact ⟨by rw [if_neg h, if_pos h2], h2⟩
    · right; left; exact ⟨by rw [if_neg h, if_neg h2], by omega⟩

theorem round_modes (q r y round tw : Int) (rn : Nat) (odd : Bool) (hr : okRound round) (h0 : 0 ≤ r) (hrn : 0 < rn ↔ 0 < r) (hodd : odd = (q % 2 == 1))
    (htw : (tw = 1 ∧ y < 2 * r) ∨ (tw = 0 ∧ 2 * r = y) ∨ (tw = -1 ∧ 2 * r < y)) :
    (round = 0 ∧ upB q r y round = false) ∨ (round = 1 ∧ 0 < rn ∧ upB q r y round = true) ∨ (round = 1 ∧ rn = 0 ∧ upB q r y round = false) ∨
    (round = 2 ∧ tw = 1 ∧ upB q r y round = true) ∨ (round = 2 ∧ tw = 0 ∧ odd = true ∧ upB q r y round = true) ∨ (round = 2 ∧ tw = 0 ∧ odd = false ∧ upB q r y round = false) ∨ (round = 2 ∧ tw = -1 ∧ upB q r y round = false) := by
  rcases hr with rfl | rfl | rfl
  · left; exact ⟨rfl, by simp [upB]⟩
  · by_cases h : 0 < rn
    · right; left; exact ⟨rfl, h, by simp [upB]; exact hrn.1 h⟩
    · right; right; left; exact ⟨rfl, by omega, by simp [upB]; omega⟩
  · rcases htw with ⟨h1, h2⟩ | ⟨h1, h2⟩ | ⟨h1, h2⟩
    · right; right; right; left; exact ⟨rfl, h1, by simp [upB]; omega⟩
    · have e1 : decide (y - r < r) = false := by simp; omega
      have e2 : (r == y - r) = true := by simp; omega
      cases odd with
      | true => right; right; right; right; left; exact ⟨rfl, h1, rfl, by simp [upB, e1, e2]; simpa using hodd.symm⟩
      | false => right; right; right; right; right; left; exact ⟨rfl, h1, rfl, by simp [upB, e1, e2]; simpa using hodd.symm⟩
    · right; right; right; right; right; right; exact ⟨rfl, h1, by simp [upB]; omega⟩

set_option maxHeartbeats 4000000 in
set_option maxRecDepth 100000 in
theorem rounded_any (w : World) (u v : Value) (x y round : Int) (hro : okRound round) (hu : Bn w u x) (hv : Bn w v y) (hx : x < pw 900) (hy0 : 0 < y) (hy : y < pw 900) :
    Calls Try.prog 50 #[u, v, .int .i64 round] w fun e w' => (∃ s, e = .returned s ∧ Bn w' s (x / y + b2i (upB (x / y) (x % y) y round))) ∧ Below w.heap.size w w' := by
  have m0 := Int.emod_nonneg x (show y ≠ 0 by omega)
  have m1 := Int.emod_lt_of_pos x hy0
  have q0 : x / y ≤ x := Int.ediv_le_self y hu.nonneg
  have p9 := pw900
  have p9' := pw900'
  have p3 := pw_pos 900
  have B1 := hid (show x % y < pw 999 by omega)
  have B2 := hid (show 2 * (x % y) + b2i false < pw 1000 by simp [b2i]; omega)
  have B3 := hid (show y < pw 1000 by omega)
  have B4 := hid (show x / y < pw 1000 by omega)
  have B5 := hid (show (1 : Int) < pw 1000 by omega)
  have HU := hid hu
  have HV := hid hv
  have M0 := hid m0
  have HO := hid hro
  have HD := hid (fun w hu hv => divided_any w u v x y hu hv hx hy0 hy)
  clear m0 m1 q0 p9 p9' p3 hu hv hx hy0 hy hro
  go_enter Try.func50, Try.ntmps50
  go_wp2_with fail
  refine (HD.out _ HU.out HV.out).mono ?_
  rintro e w1 ⟨q, r, rfl, h1, h2, h3⟩
  have K1 := hid h1
  have K2 := hid h2
  have K3 := hid h3
  clear h1 h2 h3
  go_wp2_with fail
  refine (doubled_any _ r (x % y) false K2.out B1.out).mono ?_
  rintro e w2 ⟨⟨r2, rfl, h1⟩, h2⟩
  have K4 := hid h1
  have K5 := hid h2
  clear h1 h2
  go_wp2_with fail
  refine (compare_below _ r2 v _ y K4.out ((HV.out.to K3.out).to K5.out) B2.out B3.out).mono ?_
  rintro e w3 ⟨rfl, h2⟩
  have K6 := hid h2
  have B56 := hid (K5.out.trans (K6.out.mono K5.out.size))
  have BB := hid (K3.out.trans (B56.out.mono K3.out.size))
  have hq := K1.out.to B56.out
  obtain ⟨rs, r1, r2', r3, r4⟩ := K2.out
  obtain ⟨qs, s1, s2, s3, s4⟩ := hq
  obtain ⟨ra, rc, rfl, ra1, ra2⟩ := r1.shape
  obtain ⟨qa, qc, rfl, qa1, qa2⟩ := s1.shape
  have htw := cmpI_cases (2 * (x % y) + b2i false) y
  generalize cmpI (2 * (x % y) + b2i false) y = tw at *
  have hrn := len_pos rs r2' r3
  rw [r4] at hrn
  have hmod := val_mod2 qs
  rw [s4] at hmod
  have hmo := round_modes (x / y) (x % y) y round tw rs.length (x / y % 2 == 1) HO.out M0.out hrn rfl (by simpa [b2i] using htw)
  have dq := at0_dig qs s2 0
  unfold maxLen at ra1 qa1
  obtain ⟨up, hup⟩ : ∃ up, upB (x / y) (x % y) y round = up := ⟨_, rfl⟩
  rw [hup] at hmo
  have HUP := hid hup
  clear hup
  have HQ := hid (show Bn w3 (.slice qa qs.length qc) (x / y) from ⟨qs, s1, s2, s3, s4⟩)
  have hsh : (qs.length = 0 ∧ (x / y % 2 == 1) = false) ∨ (0 < qs.length ∧ ∃ g o d, qa = some ⟨g, o, none⟩ ∧ w3.cell? ⟨g, o, none⟩ = some (.int .u32 d) ∧ 0 ≤ d ∧ (d % 2 == 1) = (x / y % 2 == 1)) := by
    by_cases h : 0 < qs.length
    · right
      obtain ⟨g, o, e1, e2⟩ := qa2 h
      refine ⟨h, g, o, at0 qs 0, e1, e2.2 0 h, dq.1, ?_⟩
      rw [hmod]
    · left
      have hz : qs = [] := List.length_eq_zero_iff.1 (by omega)
      subst hz
      refine ⟨rfl, ?_⟩
      rw [hmod]; simp [at0]
  generalize (x / y % 2 == 1) = odd at *
  have rl0 : (0 : Int) ≤ (rs.length : Int) := by omega
  clear h2 htw hrn hmod dq s1 s2 s3 s4 r1 r2' r3 r4 ra2 qa2 HD
  rcases hmo with ⟨rfl, rfl⟩ | ⟨rfl, k1, rfl⟩ | ⟨rfl, k1, rfl⟩ | ⟨rfl, rfl, rfl⟩ | ⟨rfl, rfl, rfl, rfl⟩ | ⟨rfl, rfl, rfl, rfl⟩ | ⟨rfl, rfl, rfl⟩
  all_goals rcases hsh with ⟨j1, j2⟩ | ⟨j1, g, o, d, rfl, cell, d0, j2⟩
  all_goals try (simp at j2; done)
  all_goals try rw [j1] at HQ
  all_goals go_wp2_with fail
  all_goals first
    | (refine (plus_any _ _ _ (x / y) 1 (HQ.out.to ((Below.refl _ _).alloc (Nat.le_refl _) _)) (bn_digit w3 1 (by decide) (by decide)) B4.out B5.out).mono ?_
       rintro e w4 ⟨⟨s, rfl, h1⟩, h2⟩
       have K7 := hid h1
       have K8 := hid h2
       clear h1 h2
       go_wp2
       go_ret
       refine ⟨⟨s, rfl, by rw [HUP.out]; exact K7.out⟩, ?_⟩
       exact ((BB.out.alloc BB.out.size _).trans (K8.out.mono (by have := BB.out.size; simp; omega))))
    | (go_ret
       refine ⟨⟨_, rfl, by rw [HUP.out, show x / y + b2i false = x / y from by simp [b2i]]; exact HQ.out⟩, BB.out⟩)
end Go.Proofs.Ythikjpccmplbiaa
