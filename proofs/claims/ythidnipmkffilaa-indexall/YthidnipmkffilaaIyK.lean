/-
  The document's Get over a table whose slice has any capacity. Written by mkrg.py.
-/
import Derived.Test.YthidnipmkffilaaIyI
namespace Go.Proofs.Ythidnipmkffilaa
open Go.RowKit Go.Deep
set_option linter.unusedVariables false
set_option linter.unusedSimpArgs false
def PlG (w : World) (P n : Nat) (T : Ix.Tab) : Prop :=
  ∃ cs : Array Value, w.heap[P]? = some (.cells cs 74 (0, 0)) ∧
    ∀ i, i < n → cs[i * 3]? = some (.bool (eU (T i))) ∧ cs[i * 3 + 1]? = some (.int .u64 (eK (T i))) ∧ cs[i * 3 + 2]? = some (.int .i64 (eV (T i)))
structure Rg (w : World) (X P n cap room : Nat) (T : Ix.Tab) : Prop where
  row : w.heap[X]? = some (.cells #[.int .i64 room, .int .i64 (Ix.cnt T n), .slice (some ⟨P, 0, none⟩) n cap] 33 (0, 0))
  pl : PlG w P n T
  pow : ∃ k, n = 2 ^ k
  two : 2 * room ≤ n
  one : 1 ≤ room
  most : n ≤ 131072
  le : Ix.cnt T n ≤ room
theorem PlG.cell {w : World} {P n : Nat} {T : Ix.Tab} (h : PlG w P n T) {i : Nat} (hi : i < n) :
    w.cell? ⟨P, i * 3, none⟩ = some (.bool (eU (T i))) ∧ w.cell? ⟨P, i * 3 + 1, none⟩ = some (.int .u64 (eK (T i))) ∧ w.cell? ⟨P, i * 3 + 2, none⟩ = some (.int .i64 (eV (T i))) := by
  obtain ⟨cs, h1, h3⟩ := h
  rw [row_cell h1, row_cell h1, row_cell h1]
  exact h3 i hi
theorem Rg.cells {w : World} {X P n cap room : Nat} {T : Ix.Tab} (h : Rg w X P n cap room T) :
    w.cell? ⟨X, 0, none⟩ = some (.int .i64 room) ∧ w.cell? ⟨X, 1, none⟩ = some (.int .i64 (Ix.cnt T n)) ∧ w.cell? ⟨X, 2, none⟩ = some (.slice (some ⟨P, 0, none⟩) n cap) :=
  ⟨row_cell h.row 0, row_cell h.row 1, row_cell h.row 2⟩
theorem Rg.kp {B : Nat → Prop} {w w' : World} {X P n cap room : Nat} {T : Ix.Tab} (h : Rg w X P n cap room T) (k : Kp B w w') (hX : ¬ B X) (hP : ¬ B P) : Rg w' X P n cap room T := by
  obtain ⟨cs, h1, h2⟩ := h.pl
  exact { h with row := k.row h.row hX, pl := ⟨cs, k.row h1 hP, h2⟩ }
theorem Rg.pos {w : World} {X P n cap room : Nat} {T : Ix.Tab} (h : Rg w X P n cap room T) : 2 ≤ n := by have := h.two; have := h.one; omega
theorem Rg.free {w : World} {X P n cap room : Nat} {T : Ix.Tab} (h : Rg w X P n cap room T) : ∃ e, e < n ∧ T e = none := Ix.cnt_free (by have := h.two; have := h.one; have := h.le; omega)
set_option maxHeartbeats 1000000 in
set_option maxRecDepth 100000 in
theorem GHome_any {w : World} {X P n cap room : Nat} {T : Ix.Tab} (h : Rg w X P n cap room T) (k : Int) :
    Calls Try.prog 14 #[.pointer (some ⟨X, 0, none⟩), .int .u64 k] w fun e w' => e = .returned (.int .i64 (hm n k)) ∧ w' = w := by
  have hc := h.cells.2.2
  have hmost := h.most
  obtain ⟨b, hb⟩ := h.pow
  have h1 : 0 ≤ (k * 11400714819323198485) % 18446744073709551616 := Int.emod_nonneg _ (by decide)
  have h2 : (k * 11400714819323198485) % 18446744073709551616 < 18446744073709551616 := Int.emod_lt_of_pos _ (by decide)
  have e1 : IntKind.u64.wrap (k * 11400714819323198485) = (k * 11400714819323198485) % 18446744073709551616 := by simp [IntKind.wrap, IntKind.bits, IntKind.signed]
  have HM : hm n k = ((k * 11400714819323198485) % 18446744073709551616 * n / 18446744073709551616).toNat := rfl
  obtain ⟨x, hx⟩ := Int.eq_ofNat_of_zero_le h1
  rw [hx] at e1 HM h2
  have hlt : x < 18446744073709551616 := by omega
  have hy : x * n / 18446744073709551616 = hm n k := by
    rw [HM, ← Int.natCast_mul]; generalize x * n = m; omega
  have hy' : x * 2 ^ b / 18446744073709551616 = hm n k := by rw [← hb]; exact hy
  have HY := hid hy'
  have HB := hid hb
  have HLT := hid hlt
  have hb17 : b ≤ 17 := by
    rcases Nat.lt_or_ge 17 b with h3 | h3
    · have := Nat.pow_le_pow_right (n := 2) (by omega) h3; omega
    · exact h3
  clear h h1 h2 hx HM hy hy' hlt hb
  go_enter Try.func14, Try.ntmps14
  go_wp2_with fail
  go_loopw [5, 6, 7] (fun nv hv pv wr => ∃ j : Nat, j ≤ b ∧ nv = .int .u64 ((x * 2 ^ j % 18446744073709551616 : Nat) : Int) ∧ hv = .int .i64 ((x * 2 ^ j / 18446744073709551616 : Nat) : Int) ∧ pv = .int .i64 ((2 ^ (b - j) : Nat) : Int) ∧ wr = w) (fun _ _ pv _ => (intOf pv).toNat)
  case atStart =>
    refine ⟨0, Nat.zero_le _, ?_, ?_, ?_, rfl⟩
    · have := HLT.out; congr 1; omega
    · have := HLT.out; congr 1; omega
    · rw [Nat.sub_zero, ← HB.out]
  case round =>
    obtain ⟨j, hj, rfl, rfl, rfl, rfl⟩ := hrel
    by_cases hjb : j < b
    · obtain ⟨t1, t2⟩ := top_step x j
      have HT := hid (And.intro t1 t2)
      have hp : 2 ^ (b - j) = 2 * 2 ^ (b - (j + 1)) := by
        rw [show b - j = b - (j + 1) + 1 by omega, Nat.pow_succ]; omega
      have hpos : 0 < 2 ^ (b - (j + 1)) := Nat.two_pow_pos _
      have hhome : x * 2 ^ j / 18446744073709551616 < 2 ^ j := by
        have h3 := HLT.out
        rw [Nat.div_lt_iff_lt_mul (by decide), Nat.mul_comm (2 ^ j)]
        exact Nat.mul_lt_mul_of_pos_right h3 (Nat.two_pow_pos j)
      have hj17 : 2 ^ j ≤ 131072 := by have := Nat.pow_le_pow_right (n := 2) (by omega) (show j ≤ 17 by omega); omega
      have hpb : 2 ^ (b - (j + 1)) ≤ 131072 := by have := Nat.pow_le_pow_right (n := 2) (by omega) (show b - (j + 1) ≤ 17 by omega); omega
      have hr : x * 2 ^ j % 18446744073709551616 < 18446744073709551616 := Nat.mod_lt _ (by decide)
      obtain ⟨q, hq⟩ : ∃ q, x * 2 ^ j / 18446744073709551616 = q := ⟨_, rfl⟩
      obtain ⟨r, hr0⟩ : ∃ r, x * 2 ^ j % 18446744073709551616 = r := ⟨_, rfl⟩
      obtain ⟨q', hq'⟩ : ∃ q, x * 2 ^ (j + 1) / 18446744073709551616 = q := ⟨_, rfl⟩
      obtain ⟨r', hr'⟩ : ∃ r, x * 2 ^ (j + 1) % 18446744073709551616 = r := ⟨_, rfl⟩
      obtain ⟨p2, hp2⟩ : ∃ p, 2 ^ (b - (j + 1)) = p := ⟨_, rfl⟩
      rw [hq, hr0, hq'] at t1
      rw [hr0, hr'] at t2
      rw [hq] at hhome
      rw [hr0] at hr
      rw [hp2] at hp hpos hpb
      rw [hq, hr0, hp]
      have HN := hid (And.intro hq' (And.intro hr' hp2))
      have b1 : q < 131072 := by omega
      obtain ⟨z, hz0⟩ : ∃ z, r / 9223372036854775808 = z := ⟨_, rfl⟩
      have ez : IntKind.u64.wrap ((r : Int) / 9223372036854775808) = (z : Int) := by simp [IntKind.wrap, IntKind.bits, IntKind.signed]; omega
      have er : IntKind.u64.wrap ((r : Int) * 2) = (r' : Int) := by simp [IntKind.wrap, IntKind.bits, IntKind.signed]; omega
      have hz : z ≤ 1 := by omega
      have eq' : 2 * (q : Int) + (z : Int) = (q' : Int) := by omega
      have HJ := hid (show j + 1 ≤ b from hjb)
      have HQ := hid eq'
      have hq2 : q' < 262146 := by omega
      have ep : ((2 * p2 : Nat) : Int) = 2 * (p2 : Int) := by omega
      have e2p : 2 * (p2 : Int) / 2 = (p2 : Int) := by omega
      rw [ep]
      have HPP := hid (show p2 < 2 * p2 by omega)
      clear hj hjb hp hq hr0 hq' hr' hp2 hhome hj17 HT hb17 t1 t2 hz0 hr ep eq'
      go_wp2_with fail
      refine ⟨⟨j + 1, HJ.out, by rw [HN.out.2.1], by rw [HN.out.1, HQ.out], by rw [HN.out.2.2], trivial⟩, ?_⟩
      have := HPP.out
      simp only [intOf]; omega
    · have hb : j = b := by omega
      subst hb
      rw [Nat.sub_self, HY.out]
      clear hj hjb
      go_wp2_with fail
      go_ret
      exact ⟨rfl, rfl⟩
set_option maxHeartbeats 400000 in
theorem gnextC {w : World} {X P n cap room : Nat} {T : Ix.Tab} (h : Rg w X P n cap room T) (hm : n ≤ 131072) {a : Nat} (ha : a < n) :
    Calls Try.prog 39 #[.pointer (some ⟨X, 0, none⟩), .int .i64 a] w fun e w' => e = .returned (.int .i64 (Ix.nx n a)) ∧ w' = w := by
  have hc := h.cells.2.2
  have hmod : ((a : Int) + 1) % (n : Int) = (Ix.nx n a : Int) := nx_mod ha
  have hmod2 : ((a : Int) + 1).tmod (n : Int) = (Ix.nx n a : Int) := by rw [Int.tmod_eq_emod_of_nonneg (by omega)]; exact hmod
  have n0 : ¬ (n : Int) = 0 := by omega
  have n1 : ¬ n = 0 := by omega
  clear h
  go_enter Try.func39, Try.ntmps39
  go_wp2
  go_ret
  exact ⟨rfl, rfl⟩
set_option maxHeartbeats 2000000 in
set_option maxRecDepth 100000 in
theorem gfind_any {w : World} {X P n cap room : Nat} {T : Ix.Tab} (h : Rg w X P n cap room T) (k : Int) :
    Calls Try.prog 38 #[.pointer (some ⟨X, 0, none⟩), .int .u64 k] w fun e w' => ∃ i, e = .returned (.tuple #[.int .i64 (i : Nat), .bool (eU (T i))]) ∧ Ix.Fd n (hm n) T k i ∧ Kp (fun _ => False) w w' := by
  have hc := h.cells.2.2
  obtain ⟨e, he, hf⟩ := h.free
  have HE := hid (And.intro he hf)
  have HL := hid h
  have hpos := h.pos
  have hmost := h.most
  have hk := hm_lt (n := n) (by omega) k
  have HK := hid hk
  have hC := GHome_any h k
  clear h he hf hk
  go_enter Try.func38, Try.ntmps38
  go_wp2_with (first | (go_at_call 14; with_reducible refine hC.mono ?_; rintro e9 w9 ⟨rfl, h9⟩; subst w9))
  go_loopw [6] (fun av wr => ∃ a : Nat, av = .int .i64 a ∧ wr = w ∧ a < n ∧ Hid (Ix.ds n (hm n k) a ≤ Ix.ds n (hm n k) e ∧ ∀ j, j < n → Ix.ds n (hm n k) j < Ix.ds n (hm n k) a → ∃ k' v', T j = some (k', v') ∧ k' ≠ k)) (fun av _ => Ix.ds n (intOf av).toNat e)
  case atStart => exact ⟨_, rfl, rfl, HK.out, hid ⟨by rw [Ix.ds_self]; omega, fun j _ hj => by rw [Ix.ds_self] at hj; omega⟩⟩
  case round =>
    obtain ⟨a, rfl, rfl, ha, HI⟩ := hrel
    have f2 : (a : Int) < (n : Int) := by omega
    have f3 : (0 : Int) ≤ (a : Int) := by omega
    have ct1 : ((a : Int)).toNat = a := by omega
    obtain ⟨c0, c1, c2⟩ := HL.out.pl.cell ha
    clear c2 hC hpos
    have HHA := hid ha
    by_cases hu : T a = none
    · rw [hu] at c0 c1
      simp only [eU, eK] at c0 c1
      have FIN := hid (show Ix.Fd n (hm n) T k a from ⟨HHA.out, HI.out.2, .inl hu⟩)
      have HU := hid hu
      clear hu ha
      go_wp2_with fail
      go_quiet (fail)
      go_wp2_with fail
      go_ret2
      exact ⟨a, by rw [HU.out]; rfl, FIN.out, Kp.drewN _ _ _⟩
    · obtain ⟨⟨k', v'⟩, hs⟩ : ∃ p, T a = some p := by
        cases hx : T a with
        | none => exact absurd hx hu
        | some p => exact ⟨p, rfl⟩
      rw [hs] at c0 c1
      simp only [eU, eK] at c0 c1
      by_cases hkk : k' = k
      · subst hkk
        have FIN := hid (show Ix.Fd n (hm n) T k' a from ⟨HHA.out, HI.out.2, .inr ⟨v', hs⟩⟩)
        have HU := hid hs
        have kk : (k' == k') = true := by simp
        clear hu ha hs
        go_wp2_with fail
        go_quiet (fail)
        go_wp2_with fail
        go_ret2
        exact ⟨a, by rw [HU.out]; rfl, FIN.out, Kp.drewN _ _ _⟩
      · have kk : (k' == k) = false := by simpa using hkk
        have hne : a ≠ e := by
          intro hx; subst hx; exact hu HE.out.2
        have hC2 := gnextC HL.out hmost ha
        have hlt : Ix.ds n (hm n k) a < Ix.ds n (hm n k) e := by
          have h2 := HI.out.1
          rcases Nat.lt_or_ge (Ix.ds n (hm n k) a) (Ix.ds n (hm n k) e) with hx | hx
          · exact hx
          · exact absurd (Ix.ds_inj HK.out ha HE.out.1 (by omega)) hne
        have hnx := Ix.ds_nx HK.out ha (by have := Ix.ds_lt HK.out HE.out.1; omega)
        have hdn := Ix.ds_from_nx ha HE.out.1 hne
        have NEXT := hid (show Ix.nx n a < n ∧ Ix.ds n (hm n k) (Ix.nx n a) ≤ Ix.ds n (hm n k) e ∧ (∀ j, j < n → Ix.ds n (hm n k) j < Ix.ds n (hm n k) (Ix.nx n a) → ∃ k' v', T j = some (k', v') ∧ k' ≠ k) ∧ Ix.ds n (Ix.nx n a) e < Ix.ds n a e from by
          refine ⟨Ix.nx_lt ha, by omega, ?_, by omega⟩
          intro j hj hl
          by_cases hja : j = a
          · subst hja; exact ⟨k', v', hs, hkk⟩
          · have : Ix.ds n (hm n k) j ≠ Ix.ds n (hm n k) a := fun hx => hja (Ix.ds_inj HK.out hj ha hx)
            exact HI.out.2 j hj (by omega))
        obtain ⟨a1, ha1⟩ : ∃ a1, Ix.nx n a = a1 := ⟨_, rfl⟩
        rw [ha1] at hC2 NEXT
        clear hu ha hs hkk hne hlt hnx hdn ha1 hmost
        go_wp2_with (first | (go_at_call 39; with_reducible refine hC2.mono ?_; rintro e9 w9 ⟨rfl, h9⟩; subst w9))
        go_roundw
        case rel => exact ⟨a1, rfl, by first | trivial | rfl, NEXT.out.1, hid ⟨NEXT.out.2.1, NEXT.out.2.2.1⟩⟩
        case measure => simpa [intOf] using NEXT.out.2.2.2
set_option maxHeartbeats 2000000 in
set_option maxRecDepth 100000 in
theorem gget_any {w : World} {X P n cap room : Nat} {T : Ix.Tab} (h : Rg w X P n cap room T) (k : Int) :
    Calls Try.prog 27 #[.pointer (some ⟨X, 0, none⟩), .int .u64 k] w fun e w' => ∃ i, e = .returned (.tuple #[.int .i64 (eV (T i)), .bool (eU (T i))]) ∧ Ix.Fd n (hm n) T k i ∧ Kp (fun _ => False) w w' := by
  have HL := hid h
  have HC := hid (gfind_any h k)
  have hmost := h.most
  clear h
  go_enter Try.func27, Try.ntmps27
  go_wp2_with (first | (go_at_call 38; with_reducible refine (HC.out).mono ?_; rintro e9 w9 ⟨i, rfl, hF, hK⟩; have HF := hid hF; have HK := hid hK; clear hF hK; refine Hid.out ?_))
  have L9 := HL.out.kp HK.out (fun h => h) (fun h => h)
  have hi := HF.out.lt
  obtain ⟨c0, c1, c2⟩ := L9.pl.cell hi
  have hc := L9.cells.2.2
  have f2 : (i : Int) < (n : Int) := by omega
  have f3 : (0 : Int) ≤ (i : Int) := by omega
  have ct1 : ((i : Int)).toNat = i := by omega
  clear L9 c0 c1 hi
  refine hid ?_
  go_wp2_with fail
  go_ret2
  exact ⟨i, rfl, HF.out, HK.out⟩
theorem gget_u {w : World} {X P n cap room : Nat} {T : Ix.Tab} (h : Rg w X P n cap room T) {k : Int} {i : Nat} (hF : Ix.Fd n (hm n) T k i) :
    Calls Try.prog 27 #[.pointer (some ⟨X, 0, none⟩), .int .u64 k] w fun e w' => e = .returned (.tuple #[.int .i64 (eV (T i)), .bool (eU (T i))]) ∧ Kp (fun _ => False) w w' :=
  (gget_any h k).mono fun e w' ⟨j, h1, h2, h3⟩ => by
    have := Ix.Fd.uniq (hm_lt (by have := h.pos; omega) k) h2 hF
    subst this
    exact ⟨h1, h3⟩
theorem ris_one {n : Nat} {T : Ix.Tab} (t : Ix.Tidy n (hm n) T) {L M : List (Int × Int)} (a : L.Perm (us T n)) (b : M.Perm (us T n)) (c : Ris L) (d : Ris M) : L = M := by
  refine List.Perm.eq_of_pairwise (le := fun x y => ¬ y.1 < x.1) (fun x y hx hy h1 h2 => ?_) c d (a.trans b.symm)
  obtain ⟨xk, xv⟩ := x
  obtain ⟨yk, yv⟩ := y
  simp only at h1 h2
  obtain rfl : xk = yk := by omega
  rw [us_keys t (a.subset hx) (b.subset hy)]
end Go.Proofs.Ythidnipmkffilaa
