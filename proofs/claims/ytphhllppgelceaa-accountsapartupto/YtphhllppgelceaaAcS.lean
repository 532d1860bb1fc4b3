/-
  A deal is booked, or refused.
-/
import Derived.Test.YtphhllppgelceaaAcRs
import Derived.Test.YtphhllppgelceaaAcRt
namespace Go.Proofs.Ytphhllppgelceaa.Ac
open Go.RowKit Go.Deep Go.Maps Go.Proofs.Ytphhllppgelceaa.MonM
set_option linter.unusedVariables false
set_option linter.unusedSimpArgs false
/-- the buyer's position behind a deal. -/
def bkA (s : Ls) (d : De) : Po := bhp (s.g d.bu d.it) d.qt (-(d.pr * d.qt))
/-- the seller's. -/
def bkC (s : Ls) (d : De) : Po := bhp (if d.se = d.bu then bkA s d else s.g d.se d.it) (-d.qt) (d.pr * d.qt)
structure Bkd (s : Ls) (d : De) (s' : Ls) : Prop where
  bk : bkc s d = 0
  st : s' = bkd s d (bkA s d) (bkC s d)
  oa : absI (bkA s d).qt ≤ 4294967295
  oc : absI (bkC s d).qt ≤ 4294967295
/-- refused. -/
def Rf (s : Ls) (d : De) : Prop := bkc s d ≠ 0 ∨ 4294967295 < absI (bkA s d).qt ∨ 4294967295 < absI (bkC s d).qt
structure BkOk (s : Ls) (d : De) : Prop where
  B : ∃ x, s.f x ≠ none
  p0 : 0 ≤ d.pr
  p1 : d.pr < 262144
  q0 : 0 < d.qt
  q1 : d.qt < 4294967296
theorem bkc_ok {s : Ls} {d : De} (h : bkc s d = 0) : BkOk s d := by
  unfold bkc at h
  split at h
  · cases h
  · rename_i h1
    split at h
    · cases h
    · split at h
      · cases h
      · rename_i h3
        split at h
        · cases h
        · rename_i h4
          have hp : isPr d.pr = true := by simpa using h3
          unfold isPr at hp
          have hp := of_decide_eq_true hp
          refine ⟨⟨(d.bu, 1), fun e => ?_⟩, hp.1, hp.2, by omega, by omega⟩
          exact h1 (.inl (by rw [e]; rfl))
theorem amt_val {p q : Int} (p0 : 0 ≤ p) (p1 : p < 262144) (q0 : 0 < q) (q1 : q < 4294967296) : Amt (p * q) ∧ Amt (-(p * q)) := by
  have h0 : 0 ≤ p * q := Int.mul_nonneg p0 (by omega)
  have h1 : p * q ≤ 262144 * 4294967296 := Int.mul_le_mul (by omega) (by omega) (by omega) (by omega)
  unfold Amt
  omega
theorem absI_of {n b : Int} (h : absI n ≤ b) : -b ≤ n ∧ n ≤ b := by unfold absI at h; split at h <;> omega
theorem absI_le {n b : Int} (h0 : -b ≤ n) (h1 : n ≤ b) : absI n ≤ b := by unfold absI; split <;> omega
theorem book_any {w : World} {G : Nat} {O : Nat → Prop} {k : Nat} {s : Ls} (h : Lg w G O k s) (d : De) (hd : DeOk d) (hk : k + 13 ≤ 1000000000000) :
    Calls Try.prog 17 #[.pointer (some ⟨G, 0, none⟩), .agg d.row] w fun e w' => ∃ r s' O', e = .returned (.int .i64 r) ∧ Lg w' G O' (k + 13) s' ∧ Kp O w w' ∧ Ex w O O' ∧ (r ≠ 0 ∧ s' = s ∧ Rf s d ∨ r = 0 ∧ Bkd s d s') := by
  by_cases h0 : bkc s d = 0
  · have H := bkc_ok h0
    obtain ⟨B, P, p, c, hx⟩ := id h
    have gok := hx.gok
    clear hx
    have ha := gok d.bu d.it
    have hb := gok d.se d.it
    obtain ⟨v0, v1⟩ := amt_val H.p0 H.p1 H.q0 H.q1
    have aq : absI d.qt < 4294967296 := by have := H.q0; have := H.q1; have := absI_le (n := d.qt) (b := 4294967295) (by omega) (by omega); omega
    have an : absI (-d.qt) < 4294967296 := by have := H.q0; have := H.q1; have := absI_le (n := -d.qt) (b := 4294967295) (by omega) (by omega); omega
    have hq0 := H.q0
    have hq1 := H.q1
    have oka : PoOk (bkA s d) := bhp_ok _ _ _ ha.1
    have qa : (bkA s d).qt = (s.g d.bu d.it).qt + d.qt := bhp_qt _ _ _ (by omega)
    have ra := absI_of ha.2
    have rb := absI_of hb.2
    have CA : Hid (∀ U, Calls Try.prog 29 #[.agg (s.g d.bu d.it).row, .int .i64 d.qt, mv (-(d.pr * d.qt))] U fun e w' => e = .returned (.agg (bkA s d).row) ∧ Below U.heap.size U w') := hid (fun U => behind_any _ _ _ U ha.1 v1 (by omega) (by omega) aq)
    have b1 : absI (bkA s d).qt < 9223372036854775808 := by have := absI_le (n := (bkA s d).qt) (b := 8589934590) (by omega) (by omega); omega
    have over : ∀ {w' : World}, Below w.heap.size w w' → Rf s d → ∃ r s' O', (Ending.returned (.int .i64 10) : Ending) = .returned (.int .i64 r) ∧ Lg w' G O' (k + 13) s' ∧ Kp O w w' ∧ Ex w O O' ∧ (r ≠ 0 ∧ s' = s ∧ Rf s d ∨ r = 0 ∧ Bkd s d s') := fun {w'} hb hr => ⟨10, s, O, rfl, (h.on hb).mono (by omega), Kp.of O hb, Ex.refl _ _, .inl ⟨by decide, rfl, hr⟩⟩
    by_cases hse : d.se = d.bu
    · by_cases hov : 4294967295 < absI (bkA s d).qt
      · -- too great at once
        have hpos : 0 < (bkA s d).qt := by unfold absI at hov; split at hov <;> omega
        have eabs : absI (bkA s d).qt = (bkA s d).qt := by unfold absI; rw [if_neg (by omega)]
        have eq2 : absI (-d.qt) = d.qt := by unfold absI; rw [if_pos (by omega)]; omega
        obtain ⟨cost, hc, CP⟩ := part_wild (bkA s d).co d.qt (bkA s d).qt oka.co (by omega) hq1 (by omega)
        have CW := fun U => behind_wild (bkA s d) (-d.qt) (d.pr * d.qt) U oka v0 (by omega) (by omega) (by rw [decide_eq_true hpos, decide_eq_false (by omega)]; decide) (by rw [eabs]; omega) cost hc (hid (fun U => by rw [eq2, eabs]; exact CP U)) an (by rw [eq2, eabs]; omega)
        have bq : absI (clw (bkA s d) (-d.qt) (d.pr * d.qt) cost).qt < 9223372036854775808 := by
          have e : (clw (bkA s d) (-d.qt) (d.pr * d.qt) cost).qt = (bkA s d).qt + (if -d.qt < 0 then -(min (absI (-d.qt)) (absI (bkA s d).qt)) else min (absI (-d.qt)) (absI (bkA s d).qt)) := rfl
          rw [e, if_pos (by omega), eq2, eabs]
          have := absI_le (n := (bkA s d).qt + -(min d.qt (bkA s d).qt)) (b := 8589934590) (by omega) (by omega)
          omega
        refine (book_s h d.it d.bu d.se d.ta d.pr d.qt hd h0 H.B H.p0 H.p1 hq0 hq1 _ _ (bkA s d) _ rfl rfl CA (hid CW) oka ⟨maddV_amt _ _, maddV_amt _ _⟩ b1 bq hse hk).mono ?_
        rintro e w' (⟨_, rfl, hb⟩ | ⟨⟨x, _⟩, _⟩)
        · exact over hb (.inr (.inl hov))
        · omega
      · have hov : absI (bkA s d).qt ≤ 4294967295 := by omega
        have eC : bkC s d = bhp (bkA s d) (-d.qt) (d.pr * d.qt) := by unfold bkC; rw [if_pos hse]
        have okc : PoOk (bkC s d) := by rw [eC]; exact bhp_ok _ _ _ oka
        have qc : (bkC s d).qt = (bkA s d).qt + -d.qt := by rw [eC]; exact bhp_qt _ _ _ (by omega)
        have CS : Hid (∀ U, Calls Try.prog 29 #[.agg (bkA s d).row, .int .i64 (-d.qt), mv (d.pr * d.qt)] U fun e w' => e = .returned (.agg (bkC s d).row) ∧ Below U.heap.size U w') := hid (fun U => by rw [eC]; exact behind_any _ _ _ U oka v0 (by omega) (by omega) an)
        have hc2 : absI (bkC s d).qt ≤ 4294967295 := absI_le (by omega) (by omega)
        refine (book_s h d.it d.bu d.se d.ta d.pr d.qt hd h0 H.B H.p0 H.p1 hq0 hq1 _ _ (bkA s d) (bkC s d) rfl rfl CA CS oka okc b1 (by omega) hse hk).mono ?_
        rintro e w' (⟨x, rfl, hb⟩ | ⟨_, rfl, O', x1, x2, x3⟩)
        · exact over hb (.inr x)
        · exact ⟨0, _, O', rfl, x1, x2, x3, .inr ⟨rfl, h0, rfl, hov, hc2⟩⟩
    · have eC : bkC s d = bhp (s.g d.se d.it) (-d.qt) (d.pr * d.qt) := by unfold bkC; rw [if_neg hse]
      have okc : PoOk (bkC s d) := by rw [eC]; exact bhp_ok _ _ _ hb.1
      have qc : (bkC s d).qt = (s.g d.se d.it).qt + -d.qt := by rw [eC]; exact bhp_qt _ _ _ (by omega)
      have CS : Hid (∀ U, Calls Try.prog 29 #[.agg (s.g d.se d.it).row, .int .i64 (-d.qt), mv (d.pr * d.qt)] U fun e w' => e = .returned (.agg (bkC s d).row) ∧ Below U.heap.size U w') := hid (fun U => by rw [eC]; exact behind_any _ _ _ U hb.1 v0 (by omega) (by omega) an)
      have b2 : absI (bkC s d).qt < 9223372036854775808 := by have := absI_le (n := (bkC s d).qt) (b := 8589934590) (by omega) (by omega); omega
      refine (book_d h d.it d.bu d.se d.ta d.pr d.qt hd h0 H.B H.p0 H.p1 hq0 hq1 _ _ (bkA s d) (bkC s d) rfl rfl CA CS oka okc b1 b2 hse hk).mono ?_
      rintro e w' (⟨x, rfl, hb⟩ | ⟨⟨y1, y2⟩, rfl, O', x1, x2, x3⟩)
      · exact over hb (.inr x)
      · exact ⟨0, _, O', rfl, x1, x2, x3, .inr ⟨rfl, h0, rfl, y1, y2⟩⟩
  · refine (book_no h d hd h0).mono ?_
    rintro e w' ⟨rfl, hb⟩
    exact ⟨_, s, O, rfl, (h.on hb).mono (by omega), Kp.of O hb, Ex.refl _ _, .inl ⟨h0, rfl, .inl h0⟩⟩
theorem bkd_g (s : Ls) (d : De) (bo so : Po) : (bkd s d bo so).g = gupd (gupd s.g d.bu d.it bo) d.se d.it so := by
  show gupd (gupd (ent (ent (ent s _ _ _) _ _ _) _ _ _).g d.bu d.it bo) d.se d.it so = _
  rw [ent_g, ent_g, ent_g]
theorem Bkd.qb {s s' : Ls} {d : De} (h : Bkd s d s') (hne : d.bu ≠ d.se) : (s'.g d.bu d.it).qt = (s.g d.bu d.it).qt + d.qt ∧ (s'.g d.se d.it).qt = (s.g d.se d.it).qt - d.qt := by
  have H := bkc_ok h.bk
  have hq0 := H.q0
  rw [h.st, bkd_g]
  unfold gupd
  constructor
  · rw [if_neg (fun e => hne e.1), if_pos ⟨rfl, rfl⟩]
    exact bhp_qt _ _ _ (by omega)
  · rw [if_pos ⟨rfl, rfl⟩]
    unfold bkC
    rw [if_neg (fun e => hne e.symm), bhp_qt _ _ _ (by omega)]
    omega
end Go.Proofs.Ytphhllppgelceaa.Ac
