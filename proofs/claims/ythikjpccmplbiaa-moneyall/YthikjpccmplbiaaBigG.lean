/-
  The document's divided.
-/
import Derived.Test.YthikjpccmplbiaaBigF
namespace Go.Proofs.Ythikjpccmplbiaa
open Go.RowKit BigM
set_option linter.unusedVariables false

theorem pw900 : 4294967296 * pw 900 ≤ pw 999 := by rw [← pw_succ]; exact pw_le _ _ (by decide)
theorem pw900' : 4294967296 * pw 900 ≤ pw 1000 := by rw [← pw_succ]; exact pw_le _ _ (by decide)

theorem compare_below (w : World) (u v : Value) (x y : Int) (hu : Bn w u x) (hv : Bn w v y) (hx : x < pw 1000) (hy : y < pw 1000) :
    Calls Try.prog 34 #[u, v] w fun e w' => e = .returned (.int .i64 (cmpI x y)) ∧ Below w.heap.size w w' := by
  refine (compare_any w u v x y hu hv hx hy).mono ?_
  rintro e w' ⟨rfl, n, rfl⟩
  exact ⟨rfl, below_drewN (Below.refl _ _) n⟩

/-- what stands between two bits. -/
def DivR (w : World) (y M : Int) (q r v : Value) (wr : World) : Prop :=
  Bn wr q (M / y) ∧ Bn wr r (M % y) ∧ Bn wr v y ∧ Below w.heap.size w wr

set_option maxHeartbeats 2000000 in
set_option maxRecDepth 100000 in
theorem divided_walk (w : World) (xs : List Int) (a : Option Addr) (ca : Nat) (v : Value) (y : Int) (hl : xs.length ≤ 1000) (da : Dig xs) (hx : val xs < pw 900) (hy0 : 0 < y) (hy : y < pw 900) (hv : Bn w v y)
    (sa : 0 < xs.length → ∃ g o, a = some ⟨g, o, none⟩ ∧ CellsAt w g o xs) :
    Calls Try.prog 52 #[.slice a xs.length ca, v] w fun e w' => ∃ q r, e = .returned (.tuple #[q, r]) ∧ Bn w' q (val xs / y) ∧ Bn w' r (val xs % y) ∧ Below w.heap.size w w' := by
  have Hx := hid hx
  have Hy := hid hy
  have Hy0 := hid hy0
  have HV := hid hv
  have HD := hid da
  have HA := hid sa
  clear hx hy hv hy0 da sa
  go_enter Try.func52, Try.ntmps52
  go_wp2
  go_loopw [6, 7, 8] (fun q r i wr => ∃ k : Nat, k ≤ xs.length ∧ i = .int .i64 ((k : Int) - 1) ∧ DivR w y (val (xs.drop k)) q r v wr) (fun _ _ i _ => (intOf i + 1).toNat)
  case atStart =>
    refine ⟨xs.length, Nat.le_refl _, rfl, ?_⟩
    have e : val (xs.drop xs.length) = 0 := by rw [List.drop_length]; rfl
    rw [e, DivR, Int.zero_ediv, Int.zero_emod]
    have hb : Below w.heap.size w ((w.alloc (.cells #[] 37)).alloc (.cells #[] 37)) := ((Below.refl _ _).alloc (Nat.le_refl _) _).alloc (by simp) _
    exact ⟨bn_empty w _ _ (by obtain ⟨c, e⟩ := alloc_cells w #[]; exact ⟨c, (Below.heap_alloc _ _ _ (by simp)).trans e⟩), bn_empty w _ _ (by obtain ⟨c, e⟩ := alloc_cells (w.alloc (.cells #[] 37)) #[]; exact ⟨c, by simpa using e⟩), HV.out.to hb, hb⟩
  case round =>
    obtain ⟨k, hk, rfl, HR⟩ := hrel
    have HR := hid HR
    by_cases h0 : k = 0
    · subst h0
      go_wp2
      go_ret2
      exact ⟨_, _, rfl, HR.out.1, HR.out.2.1, HR.out.2.2.2⟩
    · obtain ⟨m, rfl⟩ : ∃ m, k = m + 1 := ⟨k - 1, by omega⟩
      obtain ⟨g, o, rfl, hc⟩ := HA.out (by omega)
      have cell := (hc.below HR.out.2.2.2 (Nat.le_refl _)).2 m (by omega)
      have dx := at0_dig xs HD.out m
      have HQ := hid (val_nonneg _ (dig_drop HD.out (m + 1)))
      have hst := hid (val_drop xs m)
      have hpre : val xs = val (xs.take m) + pw m * val (xs.drop m) := by
        have := val_append (xs.take m) (xs.drop m)
        rw [List.take_append_drop, show (xs.take m).length = m from by simp; omega] at this
        exact this
      have HP := hid (show val (xs.drop m) ≤ val xs by
        have h1 := val_nonneg _ (HD.out.take m)
        have h2 := val_nonneg _ (dig_drop HD.out m)
        have h3 : 1 * val (xs.drop m) ≤ pw m * val (xs.drop m) := Int.mul_le_mul_of_nonneg_right (by have := pw_pos m; omega) h2
        omega)
      clear hpre hc
      obtain ⟨d, hd⟩ : ∃ d, at0 xs m = d := ⟨_, rfl⟩
      rw [hd] at cell dx hst
      obtain ⟨d0, d1⟩ := dx
      clear hd
      have e1 : (((m + 1 : Nat) : Int) - 1) = (m : Int) := by omega
      rw [e1]
      clear e1
      have HB := hid (bits_start (val (xs.drop (m + 1))) d HQ.out d0 d1)
      have HE := hid (show val (xs.drop (m + 1)) * 4294967296 + d = val (xs.drop m) by have := hst.out; omega)
      go_wp2
      go_loopw [6, 7, 9, 10] (fun q r xv tv wr => ∃ (t : Nat) (M x : Int), t ≤ 32 ∧ tv = .int .i64 t ∧ xv = .int .u32 x ∧ 0 ≤ x ∧ x < 4294967296 ∧ Hid (Bits (val (xs.drop (m + 1)) * 4294967296 + d) t M x) ∧ Hid (DivR w y M q r v wr)) (fun _ _ _ tv _ => 32 - (intOf tv).toNat)
      case atStart => exact ⟨0, _, d, by decide, rfl, rfl, d0, d1, HB, HR⟩
      case round =>
        clear HR HB cell
        obtain ⟨t, M, x, ht, rfl, rfl, x0, x1, HB, HR⟩ := hrel
        by_cases h32 : t = 32
        · subst h32
          have hM := bits_end HB.out
          rw [HE.out] at hM
          subst hM
          go_wp2
          go_roundw
          case rel => exact ⟨m, by omega, by go_num, HR.out⟩
          case measure => simp [intOf]
        · have htl : t < 32 := by omega
          have HM := hid (show M < pw 900 by
            have h1 := bits_le HB.out (by have := HQ.out; omega)
            rw [HE.out] at h1
            have h2 := HP.out
            have h3 := Hx.out
            omega)
          have hst2 := hid (bits_step HB.out htl)
          have hbb := b2i_bounds (decide (2147483648 ≤ x))
          obtain ⟨b, hb⟩ : ∃ b, decide (2147483648 ≤ x) = b := ⟨_, rfl⟩
          have HS := hid (bit_step y M (2 * (M % y) + b2i b) (b2i b) Hy0.out rfl (by rw [← hb]; exact hbb.1) (by rw [← hb]; exact hbb.2))
          rw [hb] at hst2 hbb
          have hm0 := hid (Int.emod_nonneg M (show y ≠ 0 by have := Hy0.out; omega))
          have hm1 := hid (Int.emod_lt_of_pos M Hy0.out)
          have hq0 := hid (show M / y ≤ M from Int.ediv_le_self y HB.out.2.2.2.1)
          have B1 := hid (show M % y < pw 999 by have := hm1.out; have := Hy.out; have := pw900; have := Hy0.out; omega)
          have B2 := hid (show 2 * (M % y) + b2i b < pw 1000 by have := hm1.out; have := Hy.out; have := pw900'; have := Hy0.out; omega)
          have B3 := hid (show y < pw 1000 by have := Hy.out; have := pw900'; have := Hy0.out; omega)
          have B4 := hid (show M / y < pw 999 by have := hq0.out; have := HM.out; have := pw900; have := Hy.out; have := Hy0.out; omega)
          have hxm : x % 2147483648 * 2 < 4294967296 := by omega
          have HBB := hid hbb
          clear hbb
          by_cases hf : y ≤ 2 * (M % y) + b2i b
          · obtain ⟨s1, s2⟩ := HS.out.2 hf
            have S1 := hid s1
            have S2 := hid s2
            have C0 := hid (show 0 ≤ cmpI (2 * (M % y) + b2i b) y by unfold cmpI; rw [if_neg (by omega)]; split <;> decide)
            have HF := hid hf
            clear s1 s2 hf
            go_wp2_with fail
            refine (doubled_any _ _ (M % y) b HR.out.2.1 B1.out).mono ?_
            rintro e w1 ⟨⟨r1, rfl, h1⟩, h2⟩
            have K1 := hid h1
            have K2 := hid h2
            clear h1 h2
            go_wp2_with fail
            refine (compare_below _ r1 v _ y K1.out (HR.out.2.2.1.to K2.out) B2.out B3.out).mono ?_
            rintro e w2 ⟨rfl, h2⟩
            have K3 := hid h2
            have c0 := C0.out
            generalize cmpI (2 * (M % y) + b2i b) y = cm at c0
            clear h2
            go_wp2_with fail
            refine (minus_any _ r1 v _ y (K1.out.to K3.out) ((HR.out.2.2.1.to K2.out).to K3.out) B2.out HF.out).mono ?_
            rintro e w3 ⟨⟨r2, rfl, h1⟩, h2⟩
            have K4 := hid h1
            have K5 := hid h2
            clear h1 h2
            go_wp2_with fail
            have BB := hid (((K2.out).trans (K3.out.mono K2.out.size)).trans (K5.out.mono (Nat.le_trans K2.out.size K3.out.size)))
            refine (doubled_any _ _ (M / y) true (HR.out.1.to BB.out) B4.out).mono ?_
            rintro e w4 ⟨⟨q1, rfl, h1⟩, h2⟩
            have K6 := hid h1
            have K7 := hid h2
            clear h1 h2
            have BC := hid (BB.out.trans (K7.out.mono BB.out.size))
            have FR := hid (show DivR w y (2 * M + b2i b) q1 r2 v w4 from ⟨by rw [S1.out]; exact K6.out, by rw [S2.out]; exact K4.out.to K7.out, HR.out.2.2.1.to BC.out, HR.out.2.2.2.trans (BC.out.mono HR.out.2.2.2.size)⟩)
            go_wp2
            go_roundw
            case rel => exact ⟨t + 1, 2 * M + b2i b, x % 2147483648 * 2, by omega, by go_num, rfl, by omega, by omega, hst2, FR⟩
            case measure => simp [intOf]; omega
          · obtain ⟨s1, s2⟩ := HS.out.1 (by omega)
            have S1 := hid s1
            have S2 := hid s2
            have C0 := hid (show cmpI (2 * (M % y) + b2i b) y < 0 by unfold cmpI; rw [if_pos (by omega)]; decide)
            clear s1 s2 hf
            go_wp2_with fail
            refine (doubled_any _ _ (M % y) b HR.out.2.1 B1.out).mono ?_
            rintro e w1 ⟨⟨r1, rfl, h1⟩, h2⟩
            have K1 := hid h1
            have K2 := hid h2
            clear h1 h2
            go_wp2_with fail
            refine (compare_below _ r1 v _ y K1.out (HR.out.2.2.1.to K2.out) B2.out B3.out).mono ?_
            rintro e w2 ⟨rfl, h2⟩
            have K3 := hid h2
            have c0 := C0.out
            generalize cmpI (2 * (M % y) + b2i b) y = cm at c0
            have cd : decide (0 ≤ cm) = false := by simp; omega
            clear h2
            go_wp2_with fail
            have BB := hid ((K2.out).trans (K3.out.mono K2.out.size))
            refine (doubled_any _ _ (M / y) false (HR.out.1.to BB.out) B4.out).mono ?_
            rintro e w4 ⟨⟨q1, rfl, h1⟩, h2⟩
            have K6 := hid h1
            have K7 := hid h2
            clear h1 h2
            have BC := hid (BB.out.trans (K7.out.mono BB.out.size))
            have FR := hid (show DivR w y (2 * M + b2i b) q1 r1 v w4 from ⟨by rw [S1.out, show 2 * (M / y) = 2 * (M / y) + b2i false from by simp [b2i]]; exact K6.out, by rw [S2.out]; exact (K1.out.to K3.out).to K7.out, HR.out.2.2.1.to BC.out, HR.out.2.2.2.trans (BC.out.mono HR.out.2.2.2.size)⟩)
            go_wp2
            go_roundw
            case rel => exact ⟨t + 1, 2 * M + b2i b, x % 2147483648 * 2, by omega, by go_num, rfl, by omega, by omega, hst2, FR⟩
            case measure => simp [intOf]; omega

theorem divided_any (w : World) (u v : Value) (x y : Int) (hu : Bn w u x) (hv : Bn w v y) (hx : x < pw 900) (hy0 : 0 < y) (hy : y < pw 900) :
    Calls Try.prog 52 #[u, v] w fun e w' => ∃ q r, e = .returned (.tuple #[q, r]) ∧ Bn w' q (x / y) ∧ Bn w' r (x % y) ∧ Below w.heap.size w w' := by
  obtain ⟨xs, x1, x2, x3, rfl⟩ := hu
  obtain ⟨a, ca, rfl, a1, a2⟩ := x1.shape
  exact divided_walk w xs a ca v y (by have := len_le xs x2 x3 900 hx; omega) x2 hx hy0 hy hv a2
end Go.Proofs.Ythikjpccmplbiaa
