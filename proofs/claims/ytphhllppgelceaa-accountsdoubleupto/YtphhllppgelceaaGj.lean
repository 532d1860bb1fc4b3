/-
  Calls that keep double entry.
-/
import Derived.Test.YtphhllppgelceaaGi
import Derived.Test.YtphhllppgelceaaAcZ
namespace Go.Proofs.Ytphhllppgelceaa.Ac
open Go.RowKit Go.Deep Go.Maps Go.Proofs.Ytphhllppgelceaa.MonM
set_option linter.unusedVariables false
set_option linter.unusedSimpArgs false
/-- a ledger that was made behind w, by double entry. -/
def Nd (w W : World) (G k : Nat) : Prop := ∃ s, Nl w W G k s ∧ Db s
theorem Nd.on {w W U : World} {G k : Nat} (h : Nd w W G k) (hb : Below W.heap.size W U) : Nd w U G k := by
  obtain ⟨s, h1, h2⟩ := h
  exact ⟨s, h1.on hb, h2⟩
theorem Nd.below {w W : World} {G k : Nat} (h : Nd w W G k) : Below w.heap.size w W := by obtain ⟨s, h1, _⟩ := h; exact h1.below
theorem Nl.up {w W : World} {G k k' : Nat} {s : Ls} (h : Nl w W G k s) (hk : k ≤ k') : Nl w W G k' s := by
  obtain ⟨O, h1, h2, h3⟩ := h
  exact ⟨O, h1.mono hk, h2, h3⟩
theorem Nd.up {w W : World} {G k k' : Nat} (h : Nd w W G k) (hk : k ≤ k') : Nd w W G k' := by
  obtain ⟨s, h1, h2⟩ := h
  exact ⟨s, h1.up hk, h2⟩
theorem pyc_ok {s : Ls} {m v : Int} (h : pyc s m v = 0) : (s.f (m, 1)).isSome = true ∧ 0 < v := by
  unfold pyc at h
  split at h
  · cases h
  · rename_i h1
    split at h
    · cases h
    · rename_i h2
      refine ⟨?_, by omega⟩
      cases e : (s.f (m, 1)).isSome with
      | true => rfl
      | false => exact absurd e h1
theorem nd_deposit {w W : World} {G k : Nat} (h : Nd w W G k) (m v : Int) (hm : U32 m) (h0 : -9223372036854775808 ≤ v) (h1 : v ≤ 9223372036854775807) (hk : k ≤ 900000000000) : Calls Try.prog 21 #[.pointer (some ⟨G, 0, none⟩), .int .u32 m, mv v] W fun e w' => ∃ r, e = .returned (.int .i64 r) ∧ Nd w w' G (k + 3) := by
  obtain ⟨s, hn, hd⟩ := h
  obtain ⟨O, a1, a2, a3⟩ := id hn
  have hA : Amt v := by unfold Amt; omega
  by_cases hp : pyc s m v = 0
  · obtain ⟨o, p⟩ := pyc_ok hp
    refine (deposit_do a1 m v hm hA hp ⟨(m, 1), fun e => by rw [e] at o; cases o⟩ (by omega)).mono ?_
    rintro e w' ⟨rfl, hx⟩
    have hl : s.es.length ≤ k := by obtain ⟨B, P, q, c, hx⟩ := a1; exact hx.len
    exact ⟨0, rfl, _, Nl.step a2 a3 hx, hd.ent _ _ _ (by omega) (by omega) (by omega) (.inl rfl) (.inr (.inr ⟨rfl, hm, o⟩))⟩
  · refine (deposit_ref a1 m v hm hA hp).mono ?_
    rintro e w' ⟨rfl, hb⟩
    exact ⟨_, rfl, s, (hn.on hb).up (by omega), hd⟩
theorem nd_withdraw {w W : World} {G k : Nat} (h : Nd w W G k) (m v : Int) (hm : U32 m) (h0 : -9223372036854775808 ≤ v) (h1 : v ≤ 9223372036854775807) (hk : k ≤ 900000000000) : Calls Try.prog 22 #[.pointer (some ⟨G, 0, none⟩), .int .u32 m, mv v] W fun e w' => ∃ r, e = .returned (.int .i64 r) ∧ Nd w w' G (k + 3) := by
  obtain ⟨s, hn, hd⟩ := h
  obtain ⟨O, a1, a2, a3⟩ := id hn
  have hA : Amt v := by unfold Amt; omega
  by_cases hp : pyc s m v = 0
  · obtain ⟨o, p⟩ := pyc_ok hp
    refine (withdraw_do a1 m v hm hA hp ⟨(m, 1), fun e => by rw [e] at o; cases o⟩ (by omega)).mono ?_
    rintro e w' (⟨rfl, hb⟩ | ⟨rfl, hx⟩)
    · exact ⟨_, rfl, s, (hn.on hb).up (by omega), hd⟩
    · have hl : s.es.length ≤ k := by obtain ⟨B, P, q, c, hx⟩ := a1; exact hx.len
      exact ⟨0, rfl, _, Nl.step a2 a3 hx, hd.ent _ _ _ (by omega) (by omega) (by omega) (.inr ⟨rfl, hm, o⟩) (.inr (.inl rfl))⟩
  · refine (withdraw_ref a1 m v hm hA hp).mono ?_
    rintro e w' ⟨rfl, hb⟩
    exact ⟨_, rfl, s, (hn.on hb).up (by omega), hd⟩
theorem nd_book {w W : World} {G k : Nat} (h : Nd w W G k) (d : De) (hd : DeOk d) (hk : k ≤ 900000000000) : Calls Try.prog 17 #[.pointer (some ⟨G, 0, none⟩), .agg d.row] W fun e w' => ∃ r, e = .returned (.int .i64 r) ∧ Nd w w' G (k + 13) := by
  obtain ⟨s, hn, hdb⟩ := h
  obtain ⟨O, a1, a2, a3⟩ := id hn
  refine (nl_book hn d hd (by omega)).mono ?_
  rintro e w' ⟨r, s', rfl, x, y⟩
  refine ⟨r, rfl, s', x, ?_⟩
  obtain ⟨B, P, q, c, hx⟩ := a1
  rcases y with ⟨_, y, _⟩ | ⟨_, y⟩
  · rw [y]; exact hdb
  · exact hdb.book hd hx.tf y (Nat.le_trans hx.len (by omega))
/-- numbers that came in. -/
def Vz (w : World) (q : Option Addr) (l : List Int) : Prop := ∀ i (h : i < l.length), ∃ b off, q = some ⟨b, off, none⟩ ∧ b < w.heap.size ∧ w.cell? ⟨b, off + i, none⟩ = some (.int .i64 l[i])
theorem Vz.at {w : World} {q : Option Addr} {l : List Int} (h : Vz w q l) {i : Nat} (hi : i < l.length) : ∃ b off, q = some ⟨b, off, none⟩ ∧ ∀ U, Below w.heap.size w U → U.cell? ⟨b, off + i, none⟩ = some (.int .i64 l[i]) := by
  obtain ⟨b, off, e, hb, hc⟩ := h i hi
  exact ⟨b, off, e, fun U hU => by rw [hU.cell (p := ⟨b, off + i, none⟩) hb]; exact hc⟩
theorem Uz.at2 {w : World} {q : Option Addr} {l : List Int} (h : Uz w q l) {i : Nat} (hi : i < l.length) : ∃ b off, q = some ⟨b, off, none⟩ ∧ ∀ U, Below w.heap.size w U → U.cell? ⟨b, off + i, none⟩ = some (.int .u32 l[i]) := by
  obtain ⟨b, off, e, hb, hc⟩ := h i hi
  exact ⟨b, off, e, fun U hU => by rw [hU.cell (p := ⟨b, off + i, none⟩) hb]; exact hc⟩
end Go.Proofs.Ytphhllppgelceaa.Ac
namespace Go.Proofs.Ytphhllppgelceaa.Ac
open List renaming getElem_toArray → lgA, getElem_cons_succ → lgB, getElem_cons_zero → lgC, setIfInBounds_toArray → lsA, set_cons_zero → lsB, set_cons_succ → lsC
open Go.RowKit Go.Deep Go.Maps Go.Proofs.Ytphhllppgelceaa.MonM
set_option linter.unusedVariables false
set_option linter.unusedSimpArgs false
set_option maxHeartbeats 8000000
set_option maxRecDepth 100000
attribute [local go_sem ↓] Go.wp_at_zero Go.wp_at_succ
theorem half_le (v : Int) : (0 ≤ v → 0 ≤ v.tdiv 2 ∧ v.tdiv 2 ≤ v) ∧ (v < 0 → v ≤ v.tdiv 2 ∧ v.tdiv 2 ≤ 0) := by
  constructor
  · intro h
    rw [Int.tdiv_eq_ediv_of_nonneg h]
    omega
  · intro h
    obtain ⟨u, rfl⟩ : ∃ u, v = -u := ⟨-v, by omega⟩
    rw [Int.neg_tdiv, Int.tdiv_eq_ediv_of_nonneg (by omega)]
    omega
theorem done_any {w W : World} {G K : Nat} (h : Nd w W G K) (q1 : Option Addr) (c1 : Nat) (us : List Int) (q2 : Option Addr) (c2 : Nat) (cs : List Int) (q3 : Option Addr) (c3 : Nat) (l : List De) (hu : Uz w q1 us) (hus : ∀ x ∈ us, U32 x) (hc : Vz w q2 cs) (hcs : ∀ x ∈ cs, -9223372036854775808 ≤ x ∧ x < 9223372036854775808) (hd : Dz w q3 l) (hdl : ∀ x ∈ l, DeOk x) (hK : K ≤ 1048576) (h1 : us.length ≤ 1048576) (h2 : cs.length ≤ 1048576) (h3 : l.length ≤ 1048576) :
    Calls Try.prog 8 #[.pointer (some ⟨G, 0, none⟩), .slice q1 us.length c1, .slice q2 cs.length c2, .slice q3 l.length c3] W fun e w' => e = .returned (.tuple #[]) ∧ Nd w w' G (K + 3 * 1048576 + 16 * 1048576) := by
  obtain ⟨nu, hnu⟩ : ∃ n, us.length = n := ⟨_, rfl⟩
  obtain ⟨nc, hnc⟩ : ∃ n, cs.length = n := ⟨_, rfl⟩
  obtain ⟨n, hn⟩ : ∃ n, l.length = n := ⟨_, rfl⟩
  have HU := hid hu
  have HUS := hid hus
  have HC := hid hc
  have HCS := hid hcs
  have HD := hid hd
  have HDL := hid hdl
  have HNU := hid hnu
  have HNC := hid hnc
  have HN := hid hn
  have HH := hid h
  have HB := hid (And.intro hK (And.intro h1 (And.intro h2 h3)))
  rw [hnu] at h1 HB ⊢
  rw [hnc] at h2 HB ⊢
  rw [hn] at h3 HB ⊢
  clear hu hus hc hcs hd hdl hnu hnc hn h hK
  go_enter Try.func8, Try.ntmps8
  go_upto_region 1 with fail
  go_loopw [8] (fun iv wr => ∃ i, i ≤ nc ∧ i ≤ nu ∧ iv = .int .i64 (i : Nat) ∧ Hid (Nd w wr G (K + 3 * i))) (fun iv _ => nc + nu - (intOf iv).toNat)
  case atStart => exact ⟨0, by omega, by omega, rfl, HH⟩
  case round =>
    obtain ⟨i, hi1, hi2, rfl, HE⟩ := hrel
    by_cases hlt : i < nc ∧ i < nu
    · obtain ⟨l1, l2⟩ := hlt
      have hu2 : i < us.length := by rw [HNU.out]; omega
      have hc2 : i < cs.length := by rw [HNC.out]; omega
      obtain ⟨b, off, eq, hcl⟩ := HU.out.at2 hu2
      obtain ⟨b', off', eq', hcl'⟩ := HC.out.at hc2
      subst eq
      subst eq'
      have hm0 := HUS.out _ (List.getElem_mem hu2)
      have hv0 := HCS.out _ (List.getElem_mem hc2)
      obtain ⟨m, hm⟩ : ∃ x, us[i] = x := ⟨_, rfl⟩
      obtain ⟨v, hv⟩ : ∃ x, cs[i] = x := ⟨_, rfl⟩
      rw [hm] at hcl hm0
      rw [hv] at hcl' hv0
      have HM := hid hm0
      have HV := hid hv0
      have HL1 := hid hcl
      have HL2 := hid hcl'
      clear hm hv hm0 hv0 hcl hcl'
      have CC := hid (show ∀ U, Calls Try.prog 11 #[.int .i64 v] U fun e w' => e = .returned (mv v) ∧ Hid (Below U.heap.size U w') from fun U => cents_any v U (by have := HV.out; omega) (by have := HV.out; omega))
      have CD := hid (show ∀ U, Below wr.heap.size wr U → Calls Try.prog 21 #[.pointer (some ⟨G, 0, none⟩), .int .u32 m, mv v] U fun e w' => ∃ r, e = .returned (.int .i64 r) ∧ Nd w w' G (K + 3 * i + 3) from fun U hU => nd_deposit (HE.out.on hU) m v HM.out (by have := HV.out; omega) (by have := HV.out; omega) (by have := HB.out; omega))
      unfold mv at CC CD
      have i0 : (0 : Int) ≤ (i : Int) := by omega
      have i1 : (i : Int) < (nc : Int) := by omega
      have i2 : (i : Int) < (nu : Int) := by omega
      have j1 : decide ((i : Int) < (nc : Int)) = true := by simpa using i1
      have j2 : decide ((i : Int) < (nu : Int)) = true := by simpa using i2
      go_upto_region 3 with fail
      obtain ⟨V1, hV1⟩ : ∃ U, wr.drew = U := ⟨_, rfl⟩
      have DV1 := hid (show Below wr.heap.size wr V1 from by rw [← hV1]; exact bdrew1 _)
      have BV1 := hid (btr (HE.out.below) DV1.out)
      refine wp_region_held_drew (S := fun U => U.cell? ⟨b, off + i, none⟩ = some (.int .u32 m) ∧ U.cell? ⟨b', off' + i, none⟩ = some (.int .i64 v)) (by kernel_rfl) ?_ (fun hHeld => ?_)
      · (try dsimp only); rw [hV1]; exact ⟨HL1.out _ BV1.out, HL2.out _ BV1.out⟩
      rw [hV1] at hHeld ⊢
      clear hV1
      refine' wpAnyH_take (i := 0) rfl (by kernel_rfl) (by kernel_rfl) (by kernel_rfl) (fun _ _ _ h => h) (Or.inl ⟨by kernel_rfl, ?_⟩) (by assumption) ?_
      rotate_left
      · (intro w hSw; (try dsimp only at hSw); go_simp; try (with_reducible rfl))
      try simp only [lgA, lgB, lgC, Act.put, lsA, lsB, lsC]
      refine' wpAnyH_take (i := 1) rfl (by kernel_rfl) (by kernel_rfl) (by kernel_rfl) (fun _ _ _ h => h) (Or.inl ⟨by kernel_rfl, ?_⟩) (by assumption) ?_
      rotate_left
      · (intro w hSw; (try dsimp only at hSw); go_simp; try (with_reducible rfl))
      try simp only [lgA, lgB, lgC, Act.put, lsA, lsB, lsC]
      refine' wpAnyH_take (i := 2) rfl (by kernel_rfl) (by kernel_rfl) (by kernel_rfl) (fun _ _ _ h => h) (Or.inl ⟨by kernel_rfl, ?_⟩) (by assumption) ?_
      rotate_left
      · (intro w hSw; (try dsimp only at hSw); go_simp; try (with_reducible rfl))
      try simp only [lgA, lgB, lgC, Act.put, lsA, lsB, lsC]
      refine' wpAnyH_take (i := 3) rfl (by kernel_rfl) (by kernel_rfl) (by kernel_rfl) (fun _ _ _ h => h) (Or.inl ⟨by kernel_rfl, ?_⟩) (by assumption) ?_
      rotate_left
      · (intro w hSw; (try dsimp only at hSw); go_simp; try (with_reducible rfl))
      try simp only [lgA, lgB, lgC, Act.put, lsA, lsB, lsC]
      refine' wpAnyH_take (i := 4) rfl (by kernel_rfl) (by kernel_rfl) (by kernel_rfl) (fun _ _ _ h => h) (Or.inl ⟨by kernel_rfl, ?_⟩) (by assumption) ?_
      rotate_left
      · (intro w hSw; (try dsimp only at hSw); go_simp; try (with_reducible rfl))
      try simp only [lgA, lgB, lgC, Act.put, lsA, lsB, lsC]
      refine' wpAnyH_take (i := 5) rfl (by kernel_rfl) (by kernel_rfl) (by kernel_rfl) (fun _ _ _ h => h) (Or.inl ⟨by kernel_rfl, ?_⟩) (by assumption) ?_
      rotate_left
      · (intro w hSw; (try dsimp only at hSw); go_simp; try (with_reducible rfl))
      try simp only [lgA, lgB, lgC, Act.put, lsA, lsB, lsC]
      refine' wpAnyH_take (i := 6) rfl (by kernel_rfl) (by kernel_rfl) (by kernel_rfl) (fun _ _ _ h => h) (Or.inl ⟨by kernel_rfl, ?_⟩) (by assumption) ?_
      rotate_left
      · (intro w hSw; (try dsimp only at hSw); go_simp; try (with_reducible rfl))
      try simp only [lgA, lgB, lgC, Act.put, lsA, lsB, lsC]
      refine' wpAnyH_take (i := 7) rfl (by kernel_rfl) (by kernel_rfl) (by kernel_rfl) (fun _ _ _ h => h) (Or.inl ⟨by kernel_rfl, ?_⟩) (by assumption) ?_
      rotate_left
      · (intro w hSw; (try dsimp only at hSw); go_simp; try (with_reducible rfl))
      try simp only [lgA, lgB, lgC, Act.put, lsA, lsB, lsC]
      refine' wpAnyH_take (i := 8) rfl (by kernel_rfl) (by kernel_rfl) (by kernel_rfl) (fun _ _ _ h => h) (Or.inl ⟨by kernel_rfl, ?_⟩) (by assumption) ?_
      rotate_left
      · (intro w hSw; (try dsimp only at hSw); go_simp; try (with_reducible rfl))
      try simp only [lgA, lgB, lgC, Act.put, lsA, lsB, lsC]
      refine wpAnyH_ready (rs := [9]) (by kernel_rfl) (by simp) ?_
      refine (AllReadyH.cons rfl (fun K hK => ?_) AllReadyH.nil)
      go_simp
      go_at_call 11
      with_reducible refine (CC.out V1).mono ?_
      rintro e X2 ⟨rfl, DbX2⟩
      have DX2 := hid (btr DV1.out DbX2.out)
      have BX2 := hid (btr BV1.out DbX2.out)
      (try go_wp2_with fail)
      refine hK.out _ _ ?_ (fun hHeld => ?_)
      · (try dsimp only); exact ⟨HL1.out _ BX2.out, HL2.out _ BX2.out⟩
      clear hK K
      try simp only [lgA, lgB, lgC, Act.put, lsA, lsB, lsC]
      refine wpAnyH_ready (rs := [10]) (by kernel_rfl) (by simp) ?_
      refine (AllReadyH.cons rfl (fun K hK => ?_) AllReadyH.nil)
      go_simp
      go_at_call 21
      with_reducible refine (CD.out X2 DX2.out).mono ?_
      rintro e Z ⟨r, rfl, hz⟩
      have NZ := hid hz
      have BZ := hid hz.below
      clear hz
      (try go_wp2_with fail)
      refine hK.out _ _ ?_ (fun hHeld => ?_)
      · (try dsimp only); exact ⟨HL1.out _ BZ.out, HL2.out _ BZ.out⟩
      clear hK K
      try simp only [lgA, lgB, lgC, Act.put, lsA, lsB, lsC]
      refine wpAnyH_done (by kernel_rfl) ?_ _
      go_wp2
      go_roundw
      case rel => exact ⟨i + 1, by omega, by omega, by go_num, hid (NZ.out.up (by omega))⟩
      case measure => simp [intOf]; omega
    · have hex : decide (i < nc) = false ∨ decide (i < nc) = true ∧ decide (i < nu) = false := by
        by_cases a : i < nc
        · exact .inr ⟨by simp; omega, by simp; omega⟩
        · exact .inl (by simp; omega)
      have HE2 := hid (HE.out.up (show K + 3 * i ≤ K + 3 * 1048576 + 16 * 0 from by have := HB.out; omega))
      clear HE hlt
      rcases hex with hex | ⟨hex, hex2⟩
      all_goals (
        go_upto_region 5 with fail
        clear hex
        go_loopw [9] (fun iv wr => ∃ i, i ≤ n ∧ iv = .int .i64 (i : Nat) ∧ Hid (Nd w wr G (K + 3 * 1048576 + 16 * i))) (fun iv _ => n - (intOf iv).toNat)
        case atStart => exact ⟨0, by omega, rfl, HE2⟩
        case round =>
          obtain ⟨j, hj, rfl, HF⟩ := hrel
          clear HE2
          by_cases hlj : j < n
          · have hj2 : j < l.length := by rw [HN.out]; exact hlj
            obtain ⟨bd, od, eqd, hcd⟩ := HD.out.at hj2
            subst eqd
            have hz := HDL.out _ (List.getElem_mem hj2)
            obtain ⟨z, hz0⟩ : ∃ z, l[j] = z := ⟨_, rfl⟩
            rw [hz0] at hcd hz
            obtain ⟨it, bu, se, ta9, pr, qt⟩ := z
            simp only at hcd
            obtain ⟨a0, a1, a2, a3, a4, a5⟩ := hcd wr HF.out.below
            have HZ := hid hz
            clear hz hz0 hcd
            have CBk := hid (show Calls Try.prog 17 #[.pointer (some ⟨G, 0, none⟩), .agg #[.int .u32 it, .int .u32 bu, .int .u32 se, .int .i64 ta9, .int .i64 pr, .int .u64 qt]] wr _ from nd_book HF.out ⟨it, bu, se, ta9, pr, qt⟩ HZ.out (by have := HB.out; omega))
            have j0 : (0 : Int) ≤ (j : Int) := by omega
            have j1 : (j : Int) < (n : Int) := by omega
            go_upto_region 8 with (go_at_call 17; with_reducible refine CBk.out.mono ?_; rintro e X ⟨r, rfl, hx⟩; have NX := hid hx; clear hx)
            clear a0 a1 a2 a3 a4 a5 CBk
            by_cases hlt2 : j < nc ∧ j < nu
            · obtain ⟨l1, l2⟩ := hlt2
              have hu2 : j < us.length := by rw [HNU.out]; omega
              have hc2 : j < cs.length := by rw [HNC.out]; omega
              obtain ⟨b, off, eq, hcl⟩ := HU.out.at2 hu2
              obtain ⟨b', off', eq', hcl'⟩ := HC.out.at hc2
              subst eq
              subst eq'
              have hm0 := HUS.out _ (List.getElem_mem hu2)
              have hv0 := HCS.out _ (List.getElem_mem hc2)
              obtain ⟨m, hm⟩ : ∃ x, us[j] = x := ⟨_, rfl⟩
              obtain ⟨v, hv⟩ : ∃ x, cs[j] = x := ⟨_, rfl⟩
              rw [hm] at hcl hm0
              rw [hv] at hcl' hv0
              have HM := hid hm0
              have HV := hid hv0
              have HL1 := hid hcl
              have HL2 := hid hcl'
              clear hm hv hm0 hv0 hcl hcl'
              have k1 : decide ((j : Int) < (nc : Int)) = true := by simp; omega
              have k2 : decide ((j : Int) < (nu : Int)) = true := by simp; omega
              have k3 : (j : Int) < (nc : Int) := by omega
              have k4 : (j : Int) < (nu : Int) := by omega
              have hq : -9223372036854775808 ≤ v.tdiv 2 ∧ v.tdiv 2 ≤ 9223372036854775807 := by have h1 := HV.out; have h2 := half_le v; omega
              have CC := hid (show ∀ U, Calls Try.prog 11 #[.int .i64 (v.tdiv 2)] U fun e w' => e = .returned (mv (v.tdiv 2)) ∧ Hid (Below U.heap.size U w') from fun U => cents_any _ U hq.1 hq.2)
              have CD := hid (show ∀ U, Below X.heap.size X U → Calls Try.prog 22 #[.pointer (some ⟨G, 0, none⟩), .int .u32 m, mv (v.tdiv 2)] U fun e w' => ∃ r, e = .returned (.int .i64 r) ∧ Nd w w' G (K + 3 * 1048576 + 16 * j + 13 + 3) from fun U hU => nd_withdraw (NX.out.on hU) m _ HM.out hq.1 hq.2 (by have := HB.out; omega))
              obtain ⟨v2, hv2⟩ : ∃ x, v.tdiv 2 = x := ⟨_, rfl⟩
              rw [hv2] at CC CD hq
              have wq : IntKind.i64.wrap v2 = v2 := by rw [IntKind.wrap_i64]; omega
              unfold mv at CC CD
              clear hq
              go_upto_region 9 with fail
              obtain ⟨V3, hV3⟩ : ∃ U, X.drew = U := ⟨_, rfl⟩
              have DV3 := hid (show Below X.heap.size X V3 from by rw [← hV3]; exact bdrew1 _)
              have BV3 := hid (btr (NX.out.below) DV3.out)
              refine wp_region_held_drew (S := fun U => U.cell? ⟨b, off + j, none⟩ = some (.int .u32 m) ∧ U.cell? ⟨b', off' + j, none⟩ = some (.int .i64 v)) (by kernel_rfl) ?_ (fun hHeld => ?_)
              · (try dsimp only); rw [hV3]; exact ⟨HL1.out _ BV3.out, HL2.out _ BV3.out⟩
              rw [hV3] at hHeld ⊢
              clear hV3
              refine' wpAnyH_take (i := 0) rfl (by kernel_rfl) (by kernel_rfl) (by kernel_rfl) (fun _ _ _ h => h) (Or.inl ⟨by kernel_rfl, ?_⟩) (by assumption) ?_
              rotate_left
              · (intro w hSw; (try dsimp only at hSw); go_simp; try (with_reducible rfl))
              try simp only [lgA, lgB, lgC, Act.put, lsA, lsB, lsC]
              refine' wpAnyH_take (i := 1) rfl (by kernel_rfl) (by kernel_rfl) (by kernel_rfl) (fun _ _ _ h => h) (Or.inl ⟨by kernel_rfl, ?_⟩) (by assumption) ?_
              rotate_left
              · (intro w hSw; (try dsimp only at hSw); go_simp; try (with_reducible rfl))
              try simp only [lgA, lgB, lgC, Act.put, lsA, lsB, lsC]
              refine' wpAnyH_take (i := 2) rfl (by kernel_rfl) (by kernel_rfl) (by kernel_rfl) (fun _ _ _ h => h) (Or.inl ⟨by kernel_rfl, ?_⟩) (by assumption) ?_
              rotate_left
              · (intro w hSw; (try dsimp only at hSw); go_simp; try (with_reducible rfl))
              try simp only [lgA, lgB, lgC, Act.put, lsA, lsB, lsC]
              refine' wpAnyH_take (i := 3) rfl (by kernel_rfl) (by kernel_rfl) (by kernel_rfl) (fun _ _ _ h => h) (Or.inl ⟨by kernel_rfl, ?_⟩) (by assumption) ?_
              rotate_left
              · (intro w hSw; (try dsimp only at hSw); go_simp; try (with_reducible rfl))
              try simp only [lgA, lgB, lgC, Act.put, lsA, lsB, lsC]
              refine' wpAnyH_take (i := 4) rfl (by kernel_rfl) (by kernel_rfl) (by kernel_rfl) (fun _ _ _ h => h) (Or.inl ⟨by kernel_rfl, ?_⟩) (by assumption) ?_
              rotate_left
              · (intro w hSw; (try dsimp only at hSw); go_simp; try (with_reducible rfl))
              try simp only [lgA, lgB, lgC, Act.put, lsA, lsB, lsC]
              refine' wpAnyH_take (i := 5) rfl (by kernel_rfl) (by kernel_rfl) (by kernel_rfl) (fun _ _ _ h => h) (Or.inl ⟨by kernel_rfl, ?_⟩) (by assumption) ?_
              rotate_left
              · (intro w hSw; (try dsimp only at hSw); go_simp; try (with_reducible rfl))
              try simp only [lgA, lgB, lgC, Act.put, lsA, lsB, lsC]
              refine' wpAnyH_take (i := 6) rfl (by kernel_rfl) (by kernel_rfl) (by kernel_rfl) (fun _ _ _ h => h) (Or.inl ⟨by kernel_rfl, ?_⟩) (by assumption) ?_
              rotate_left
              · (intro w hSw; (try dsimp only at hSw); go_simp; try (with_reducible rfl))
              try simp only [lgA, lgB, lgC, Act.put, lsA, lsB, lsC]
              refine' wpAnyH_take (i := 7) rfl (by kernel_rfl) (by kernel_rfl) (by kernel_rfl) (fun _ _ _ h => h) (Or.inl ⟨by kernel_rfl, ?_⟩) (by assumption) ?_
              rotate_left
              · (intro w hSw; (try dsimp only at hSw); go_simp; try (with_reducible rfl))
              try simp only [lgA, lgB, lgC, Act.put, lsA, lsB, lsC]
              refine' wpAnyH_take (i := 8) rfl (by kernel_rfl) (by kernel_rfl) (by kernel_rfl) (fun _ _ _ h => h) (Or.inl ⟨by kernel_rfl, ?_⟩) (by assumption) ?_
              rotate_left
              · (intro w hSw; (try dsimp only at hSw); go_simp; try (with_reducible rfl))
              try simp only [lgA, lgB, lgC, Act.put, lsA, lsB, lsC]
              refine' wpAnyH_take (i := 9) rfl (by kernel_rfl) (by kernel_rfl) (by kernel_rfl) (fun _ _ _ h => h) (Or.inl ⟨by kernel_rfl, ?_⟩) (by assumption) ?_
              rotate_left
              · (intro w hSw; (try dsimp only at hSw); go_simp; try (with_reducible rfl))
              try simp only [lgA, lgB, lgC, Act.put, lsA, lsB, lsC]
              refine wpAnyH_ready (rs := [10]) (by kernel_rfl) (by simp) ?_
              refine (AllReadyH.cons rfl (fun K hK => ?_) AllReadyH.nil)
              go_simp
              go_at_call 11
              with_reducible refine (CC.out V3).mono ?_
              rintro e X4 ⟨rfl, DbX4⟩
              have DX4 := hid (btr DV3.out DbX4.out)
              have BX4 := hid (btr BV3.out DbX4.out)
              (try go_wp2_with fail)
              refine hK.out _ _ ?_ (fun hHeld => ?_)
              · (try dsimp only); exact ⟨HL1.out _ BX4.out, HL2.out _ BX4.out⟩
              clear hK K
              try simp only [lgA, lgB, lgC, Act.put, lsA, lsB, lsC]
              refine wpAnyH_ready (rs := [11]) (by kernel_rfl) (by simp) ?_
              refine (AllReadyH.cons rfl (fun K hK => ?_) AllReadyH.nil)
              go_simp
              go_at_call 22
              with_reducible refine (CD.out X4 DX4.out).mono ?_
              rintro e Z ⟨r2, rfl, hz⟩
              have NZ := hid hz
              have BZ := hid hz.below
              clear hz
              (try go_wp2_with fail)
              refine hK.out _ _ ?_ (fun hHeld => ?_)
              · (try dsimp only); exact ⟨HL1.out _ BZ.out, HL2.out _ BZ.out⟩
              clear hK K
              try simp only [lgA, lgB, lgC, Act.put, lsA, lsB, lsC]
              refine wpAnyH_done (by kernel_rfl) ?_ _
              go_wp2
              go_roundw
              case rel => exact ⟨j + 1, by omega, by go_num, hid (NZ.out.up (by omega))⟩
              case measure => simp [intOf]; omega
            · have hex : decide (j < nc) = false ∨ decide (j < nc) = true ∧ decide (j < nu) = false := by
                by_cases a : j < nc
                · exact .inr ⟨by simp; omega, by simp; omega⟩
                · exact .inl (by simp; omega)
              clear hlt2
              rcases hex with hex | ⟨hex, hex2⟩
              all_goals (
                go_wp2
                go_roundw
                case rel => exact ⟨j + 1, by omega, by go_num, hid (NX.out.up (by omega))⟩
                case measure => simp [intOf]; omega)
          · obtain rfl : j = n := by omega
            go_wp2
            go_end0
            exact ⟨rfl, HF.out.up (by have := HB.out; omega)⟩)
end Go.Proofs.Ytphhllppgelceaa.Ac
namespace Go.Proofs.Ytphhllppgelceaa.Ac
open List renaming getElem?_toArray → lqA, getElem?_cons_succ → lqB, getElem?_cons_zero → lqC
open Go.RowKit Go.Deep Go.Maps Go.Proofs.Ytphhllppgelceaa.MonM
set_option linter.unusedVariables false
set_option linter.unusedSimpArgs false
set_option maxHeartbeats 8000000
set_option maxRecDepth 100000
attribute [local go_sem ↓] Go.wp_at_zero Go.wp_at_succ
theorem sum_any (m n : Int) (w : World) (hm : Amt m) (hn : Amt n) : Calls Try.prog 12 #[mv m, mv n] w fun e w' => e = .returned (mv (maddV m n)) ∧ Below w.heap.size w w' := by
  obtain ⟨Wa, hWa⟩ : ∃ W, w.alloc (.cells (mc m) 40) = W := ⟨_, rfl⟩
  obtain ⟨Wb, hWb⟩ : ∃ W, Wa.alloc (.cells (mc n) 40) = W := ⟨_, rfl⟩
  obtain ⟨Wc, hWc⟩ : ∃ W, Wb.alloc (.cells #[.int .u64 0, .int .u64 0] 40) = W := ⟨_, rfl⟩
  obtain ⟨R, hR⟩ : ∃ R, w.heap.size = R := ⟨_, rfl⟩
  have sa : Wa.heap.size = R + 1 := by rw [← hWa, ← hR]; exact Array.size_push _
  have sb : Wb.heap.size = R + 1 + 1 := by rw [← hWb]; exact (Array.size_push _).trans (by rw [sa])
  have ba : Below w.heap.size w Wa := by rw [← hWa]; exact ball _ _
  have bb : Below Wa.heap.size Wa Wb := by rw [← hWb]; exact ball _ _
  have bc : Below Wb.heap.size Wb Wc := by rw [← hWc]; exact ball _ _
  have ra : Wc.heap[R]? = some (.cells (mc m) 40 (0, 0)) := row_on (row_on (by rw [← hWa, ← hR]; exact World.alloc_heap_new _ _) bb) bc
  have rb : Wc.heap[R + 1]? = some (.cells (mc n) 40 (0, 0)) := row_on (by rw [← hWb, ← sa]; exact World.alloc_heap_new _ _) bc
  have rc : Wc.heap[R + 1 + 1]? = some (.cells #[.int .u64 0, .int .u64 0] 40 (0, 0)) := by rw [← hWc, ← sb]; exact World.alloc_heap_new _ _
  have HBC := hid (btr (btr ba bb) bc)
  have HA := hid (fun U => madd_any m n U hm hn)
  have HRC := hid rc
  have a0 := row_cell ra 0
  have a1 := row_cell ra 1
  have b0 := row_cell rb 0
  have b1 := row_cell rb 1
  unfold mc at hWa hWb a0 a1 b0 b1
  simp only [lqA, lqB, lqC] at a0 a1 b0 b1
  have HWa := hid hWa
  have HWb := hid hWb
  have HWc := hid hWc
  have HR := hid hR
  have SA := hid sa
  have SB := hid sb
  have HV := hid (show ∀ x, mv x = .agg #[.int .u64 (hiW x), .int .u64 (loW x)] from fun x => rfl)
  unfold mv at HA ⊢
  obtain ⟨v, hv⟩ : ∃ v, maddV m n = v := ⟨_, rfl⟩
  obtain ⟨ee, hee⟩ : ∃ v, maddE m n = v := ⟨_, rfl⟩
  rw [hv, hee] at HA
  rw [hv]
  clear hWa hWb hWc ra rb rc ba bb bc hm hn hR sa sb hv hee
  go_enter Try.func12, Try.ntmps12
  go_upto_region 1 with fail
  rw [HWa.out, HWb.out, HWc.out, HR.out]
  clear HWa HWb HWc SA SB
  go_upto_region 2 with (first | (go_at_call 25; with_reducible refine (HA.out _).mono ?_; rintro e w4 ⟨rfl, hb⟩; have HB4 := hid hb; have HZ4 := hid (World.alloc_heap_new w4 (.cells #[.int .u64 0, .int .u64 0] 40)); clear hb) | (refine wpList_store_row (by rfl) 40 (.tmp 5) (.tmp 11) (by rfl) w4.heap.size #[.int .u64 (hiW v), .int .u64 (loW v)] (by rfl) (by rfl) 40 _ HZ4.out infoM (by rfl) (by simp [Value.oneCell']) ?_))
  obtain ⟨X, hX⟩ : ∃ X, (w4.alloc (.cells #[.int .u64 0, .int .u64 0] 40)).setRow w4.heap.size #[.int .u64 (hiW v), .int .u64 (loW v)] = X := ⟨_, rfl⟩
  have GX := hid (show X.heap[w4.heap.size]? = some (.cells #[.int .u64 (hiW v), .int .u64 (loW v)] 40 (0, 0)) from by rw [← hX]; exact setRow_heap _ _ _ _ 40 (0, 0) HZ4.out)
  have BX := hid (show Below w4.heap.size w4 X from by rw [← hX]; exact setRow_below (ball _ _) (Nat.le_refl _))
  rw [hX]
  clear hX HZ4 a0 a1 b0 b1
  have c0 := row_cell GX.out 0
  have c1 := row_cell GX.out 1
  simp only [lqA, lqB, lqC] at c0 c1
  have HRX := hid (row_on (row_on HRC.out HB4.out) BX.out)
  go_wp2_with (refine wpList_store_row (by rfl) 40 (.tmp 4) (.tmp 13) (by rfl) (R + 1 + 1) #[.int .u64 (hiW v), .int .u64 (loW v)] (by rfl) (by rfl) 40 _ HRX.out infoM (by rfl) (by simp [Value.oneCell']) ?_)
  refine bodyPost_ret (results_cell_row (fn := Try.f12) Try.results12 _ _ (R + 1 + 1) 40 #[.int .u64 (hiW v), .int .u64 (loW v)] (0, 0) _ (by rfl) (setRow_heap _ _ _ _ 40 (0, 0) HRX.out) Try.underlying40 rfl infoM) rfl ⟨rfl, ?_⟩
  exact setRow_below (btr (btr HBC.out HB4.out) BX.out) (by have := HR.out; omega)
theorem entries_full {w : World} {G : Nat} {O : Nat → Prop} {k : Nat} {s : Ls} (h : Lg w G O k s) (hk : k ≤ 1000000000000) :
    Calls Try.prog 10 #[.pointer (some ⟨G, 0, none⟩)] w fun e w' => ∃ p' c', e = .returned (.slice p' s.es.length c') ∧ w'.ownsRow w.heap.size 43 6 (.slice p' s.es.length c') s.es.length (enc s.es) ∧ Below w.heap.size w w' := by
  obtain ⟨B, P, p, c, h⟩ := h
  have hl := h.len
  have a0 := row_cell h.row 4
  unfold lrow at a0
  simp only [lqA, lqB, lqC] at a0
  obtain ⟨hc1, hc2, hc3⟩ := own_cap h.own
  have HX := hid (enc_len s.es)
  have HL := hid (show ∀ ad, p = some ad → ∀ j u, (enc s.es)[j]? = some u → w.cell? (ad.add j) = some u from fun ad e => by
    have ho := h.own
    subst e
    exact (own_cells ho).2)
  have HO := hid (own_nil w w.heap.size 43 6)
  obtain ⟨n, hn⟩ : ∃ n, s.es.length = n := ⟨_, rfl⟩
  rw [hn] at a0 hl HX hc1 hc3 ⊢
  have HQ := hid hc3
  clear hc3 hn h
  have hmx : n ≤ maxLen := by omega
  go_enter Try.func10, Try.ntmps10
  go_wp2_with (at_builtin; refine wpList_app_rd (by rfl) (.const (.slice none 0 0)) (.tmp 6) 33 43 _ 6 48 (by rfl) Try.underlying33 infoE6 rfl (by decide) w.heap.size _ 0 [] (by rfl) HO.out p c n (enc s.es) (by rfl) HQ.out HX.out HL.out (enc_one s.es) (by omega) (by omega) (Nat.le_refl _) ?_; intro v' w' hown hgrow; obtain ⟨p1, q1, rfl⟩ := own_form hown; have HO1 := hid hown; have HG1 := hid hgrow; clear hown hgrow)
  go_ret
  have hO := HO1.out
  simp only [Nat.zero_add, List.nil_append] at hO ⊢
  exact ⟨p1, q1, by simp, hO, below_grown (Below.refl _ _) HO.out HG1.out⟩
theorem eqF_nil (d : Nat) (xs ys : Array Value) (w : World) : (Op.eqFields d xs ys []).run Try.prog w = .ok true w := by simp [Op.eqFields]
theorem eqF_any (d : Nat) (xs ys : Array Value) (f : Field) (fs : List Field) (u v : Value) (c : Bool) {r : Bool} {w : World} (hn : f.name ≠ "_") (hx : (part f.type xs f.offset).run Try.prog w = .ok u w) (hy : (part f.type ys f.offset).run Try.prog w = .ok v w)
    (hq : (Op.equalIn d f.type u v).run Try.prog w = .ok c w) (hr : (Op.eqFields d xs ys fs).run Try.prog w = .ok r w) : (Op.eqFields d xs ys (f :: fs)).run Try.prog w = .ok (c && r) w := by
  simp only [Op.eqFields, if_pos hn, Sem.run_bind, hx, hy, hq, Result.andThen_ok, Sem.run_ite]
  cases c
  · simp
  · simp [hr]
theorem eqF_cons (d : Nat) (xs ys : Array Value) (f : Field) (fs : List Field) (k k' : IntKind) (a b : Int) {r : Bool} {w : World} (hn : f.name ≠ "_") (hx : (part f.type xs f.offset).run Try.prog w = .ok (.int k a) w) (hy : (part f.type ys f.offset).run Try.prog w = .ok (.int k b) w)
    (hu : Try.prog.underlying f.type = some (.int k')) (hr : (Op.eqFields (d + 1) xs ys fs).run Try.prog w = .ok r w) : (Op.eqFields (d + 1) xs ys (f :: fs)).run Try.prog w = .ok ((a == b) && r) w :=
  eqF_any (d + 1) xs ys f fs _ _ (a == b) hn hx hy (run_equalIn_int w d f.type k k' a b hu) hr
theorem part_int (t : TypeId) (xs : Array Value) (o : Nat) (v : Value) (ha : ∀ w, (isAgg t).run Try.prog w = .ok false w) (h : xs[o]? = some v) (w : World) : (part t xs o).run Try.prog w = .ok v w := by
  simp [part, Sem.run_bind, ha, h]
theorem underA : Try.prog.underlying 36 = some (.struct (Try.prog.fieldsOf 36)) := by kernel_rfl
theorem stoodA : Try.prog.stoodInHeld 36 = false := by kernel_rfl
theorem eqA (x0 x1 y0 y1 : Int) (w : World) : (Op.equalIn 10000 36 (ak x0 x1) (ak y0 y1)).run Try.prog w = .ok ((x0 == y0) && ((x1 == y1) && true)) w := by
  unfold ak
  rw [show (10000 : Nat) = 9999 + 1 from rfl, run_equalIn_struct w 9999 36 _ _ underA stoodA]
  simp only [Program.fieldsOf, Try.underlying36]
  exact eqF_cons _ _ _ _ _ .u32 .u32 _ _ (by decide) (part_int 22 _ _ _ Try.isAgg22 rfl _) (part_int 22 _ _ _ Try.isAgg22 rfl _) Try.underlying22 (eqF_cons _ _ _ _ _ .i64 .i64 _ _ (by decide) (part_int 3 _ _ _ Try.isAgg3 rfl _) (part_int 3 _ _ _ Try.isAgg3 rfl _) Try.underlying3 (eqF_nil _ _ _ _))
theorem eqA_any (x0 x1 y0 y1 : Int) (w : World) : (Op.equal 36 (ak x0 x1) (ak y0 y1)).run Try.prog w = .ok (decide (x0 = y0 ∧ x1 = y1)) w := by
  have h := eqA x0 x1 y0 y1 w
  rw [show ((x0 == y0) && ((x1 == y1) && true)) = decide (x0 = y0 ∧ x1 = y1) from by by_cases a : x0 = y0 <;> by_cases b : x1 = y1 <;> simp [a, b]] at h
  exact h
theorem eql_any (x0 x1 y0 y1 : Int) (w : World) : (binOp .eql 36 (.agg #[.int .u32 x0, .int .i64 x1]) (.agg #[.int .u32 y0, .int .i64 y1])).run Try.prog w = .ok (.bool (decide (x0 = y0 ∧ x1 = y1))) w := by
  have h := eqA_any x0 x1 y0 y1 w
  unfold ak at h
  simp [binOp, Sem.run_bind, h, Result.andThen]
/-- accounts in a row. -/
def acv (l : List (Int × Int)) : List Value := l.flatMap fun x => [.int .u32 x.1, .int .i64 x.2]
theorem acv_snoc (l : List (Int × Int)) (x : Int × Int) : acv (l ++ [x]) = acv l ++ [.int .u32 x.1, .int .i64 x.2] := by simp [acv]
theorem acv_len (l : List (Int × Int)) : (acv l).length = l.length * 2 := by
  induction l with
  | nil => rfl
  | cons x l ih => simp only [acv, List.flatMap_cons, List.length_append, List.length_cons, List.length_nil] at ih ⊢; omega
theorem acv_get {l : List (Int × Int)} {i : Nat} (hi : i < l.length) : (acv l)[i * 2]? = some (.int .u32 l[i].1) ∧ (acv l)[i * 2 + 1]? = some (.int .i64 l[i].2) := by
  induction l generalizing i with
  | nil => simp at hi
  | cons x l ih =>
    have e : acv (x :: l) = [.int .u32 x.1, .int .i64 x.2] ++ acv l := by simp [acv]
    cases i with
    | zero => simp [e]
    | succ i =>
      have h := ih (i := i) (by simpa using hi)
      rw [e, show (i + 1) * 2 = i * 2 + 2 by omega]
      constructor
      · rw [List.getElem?_append_right (by simp)]
        simpa using h.1
      · rw [List.getElem?_append_right (by simp)]
        simpa using h.2
theorem enc_get {l : List En} {i : Nat} (hi : i < l.length) : (enc l)[i * 6]? = some (.int .u32 l[i].fm) ∧ (enc l)[i * 6 + 1]? = some (.int .i64 l[i].fk) ∧ (enc l)[i * 6 + 2]? = some (.int .u32 l[i].tm) ∧ (enc l)[i * 6 + 3]? = some (.int .i64 l[i].tk) ∧ (enc l)[i * 6 + 4]? = some (.int .u64 (hiW l[i].am)) ∧ (enc l)[i * 6 + 5]? = some (.int .u64 (loW l[i].am)) := by
  induction l generalizing i with
  | nil => simp at hi
  | cons x l ih =>
    have e : enc (x :: l) = enr x ++ enc l := by simp [enc]
    have e6 : (enr x).length = 6 := rfl
    cases i with
    | zero => simp [e, enr]
    | succ i =>
      have h := ih (i := i) (by simpa using hi)
      rw [e, show (i + 1) * 6 = i * 6 + 6 by omega]
      have key : ∀ j, (enr x ++ enc l)[i * 6 + 6 + j]? = (enc l)[i * 6 + j]? := fun j => by
        rw [List.getElem?_append_right (by rw [e6]; omega), e6]
        congr 1
        omega
      have k0 := key 0
      simp only [Nat.add_zero] at k0
      rw [k0, key 1, key 2, key 3, key 4, key 5]
      exact h
theorem infoA2 : (Try.prog.info? 36).map (fun i => (i.zero, i.size, i.bytes)) = some (some (.agg #[.int .u32 0, .int .i64 0]), 2, 16) := by kernel_rfl
end Go.Proofs.Ytphhllppgelceaa.Ac
