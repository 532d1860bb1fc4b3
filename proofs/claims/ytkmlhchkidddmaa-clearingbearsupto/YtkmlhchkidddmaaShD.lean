/-
  Share, where there is something to share.
-/
import Derived.Test.YtkmlhchkidddmaaShC
namespace Go.Proofs.Ytkmlhchkidddmaa.Ss
open Go.RowKit Go.Deep
set_option linter.unusedVariables false
set_option linter.unusedSimpArgs false
set_option maxHeartbeats 8000000
set_option maxRecDepth 100000
attribute [local go_sem ↓] Go.wp_at_zero Go.wp_at_succ
theorem Uz.on {w w' : World} {g n : Nat} {l : List Int} (h : Uz w g n l) (hb : Below w.heap.size w w') : Uz w' g n l := by
  obtain ⟨cur, e, _⟩ := h.row
  exact h.same (hb.block g (row_lt e))
theorem Uz.lt {w : World} {g n : Nat} {l : List Int} (h : Uz w g n l) : g < w.heap.size := by
  obtain ⟨cur, e, _⟩ := h.row
  exact row_lt e
theorem word_le {ws : List Int} (hws : ∀ x ∈ ws, Word x) {i : Nat} (hi : i < ws.length) : 0 ≤ gd ws i ∧ gd ws i ≤ sumL ws := by
  have hm : gd ws i ∈ ws := gd_mem hi
  refine ⟨(hws _ hm).1, ?_⟩
  have h1 := sumL_take_le ws (fun x hx => (hws x hx).1) (i + 1)
  have h2 := sumL_take_le ws (fun x hx => (hws x hx).1) i
  have h3 := sumL_take_gd (ws := ws) hi (fun x => x)
  simp only [List.map_id'] at h3
  omega
theorem share_ok (A S : Int) (ws : List Int) (b off cap : Nat) (w : World) (hA : Word A) (hws : ∀ x ∈ ws, Word x) (h0 : 0 < ws.length) (hn : ws.length ≤ 17592186044416) (hr : Rw w b off ws) (hS : sumL ws = S) (hS0 : 0 < S) (hS1 : S < 18446744073709551616) :
    Calls Try.prog 14 #[.int .u64 A, .slice (some ⟨b, off, none⟩) ws.length cap] w fun e w' => ∃ gp ps, e = .returned (.tuple #[.slice (some ⟨gp, 0, none⟩) ws.length ws.length, .int .i64 0]) ∧ Uw w' gp ws.length ps ∧ Sh A S ws ps ∧ w.heap.size ≤ gp ∧ Below w.heap.size w w' := by
  have C := hid (sum_w cap w hws hn hr)
  rw [show sumV ws = S from by unfold sumV; rw [hS, if_pos hS1], show sumE ws = 0 from by unfold sumE; rw [hS, if_pos hS1]] at C
  have CC := hid (cut_any A S ws b off cap w hA hws hS hS0 hS1 hn hr)
  have hsh := shr_of (A := A) (ws := ws) (by rw [hS]; exact hS0)
  rw [hS] at hsh
  obtain ⟨k, hk⟩ := Int.eq_ofNat_of_zero_le hsh.l0
  have hk1 := hsh.l1
  rw [hk] at hk1 CC
  have hk2 : k ≤ ((ws.map fun w => A * w % S).filter fun q => decide (0 < q)).length := by omega
  have HKN := hid (show k ≤ ws.length from by
    have := List.length_filter_le (fun q => decide (0 < q)) (ws.map fun w => A * w % S)
    rw [List.length_map] at this
    omega)
  have HK := hid (And.intro hk2 (show A = sumL (ws.map fun x => A * x / S) + k by omega))
  have HW := hid (show ∀ i, i < ws.length → 0 ≤ gd ws i ∧ gd ws i ≤ S from fun i hi => by rw [← hS]; exact word_le hws hi)
  have HA := hid hA
  have HS0 := hid hS0
  obtain ⟨n, hnn⟩ : ∃ n, ws.length = n := ⟨_, rfl⟩
  have HN := hid hnn
  have hn' := hn
  rw [hnn] at C CC h0 HKN hn' ⊢
  have e0 : ((n : Int) == 0) = false := by simp; omega
  have eS : (S == 0) = false := by simp; omega
  have kn : (k : Int) ≤ (n : Int) := by have := HKN.out; omega
  have k0 : (0 : Int) ≤ (k : Int) := by omega
  clear hws hn hr hS hnn hA hS0 hS1 hsh hk hk1 hk2
  go_enter Try.func14, Try.ntmps14
  go_upto_region 9 with (first | (go_at_call 7; with_reducible refine C.out.mono ?_; rintro e w1 ⟨rfl, h1⟩; have h1 := h1.symm; subst h1) | (go_at_call 23; with_reducible refine CC.out.mono ?_; rintro e w1 ⟨gp, gr, rfl, z1, z2, z3, z4, z5, z6⟩; have U1 := hid z1; have U2 := hid z2; have NE := hid z3; have L1 := hid z4; have B1 := hid z6; clear z1 z2 z3 z4 z5 z6))
  have CG := hid (greatest_any _ gr n w1 U2.out hn')
  clear C CC e0 eS
  go_upto_region 10 with (go_at_call 24; with_reducible refine CG.out.mono ?_; rintro e w2 ⟨g, pl, rfl, z1, z2, z3, z4⟩; have Z1 := hid z1; have HO := hid z2; have L2 := hid z3; have B2 := hid z4; clear z1 z2 z3 z4)
  have V0 := hid (U1.out.on B2.out)
  have NG := hid (show g ≠ gp from fun e => by have h1 := U1.out.lt; have h2 := L2.out; omega)
  have BW := hid (B1.out.trans (B2.out.mono B1.out.size))
  clear CG U1 U2 B1 B2 NE
  go_loopw [39] (fun iv wr => ∃ t ps, t ≤ k ∧ iv = .int .i64 (t : Nat) ∧ Hid (Uw wr gp n ps) ∧ Hid (Ad (ws.map fun x => A * x / S) pl ps t) ∧ Hid (Kp (fun b => b = gp) w2 wr)) (fun iv _ => k - (intOf iv).toNat)
  case atStart => exact ⟨0, _, Nat.zero_le _, rfl, V0, Ad.start _ _, Kp.refl _ _⟩
  case round =>
    obtain ⟨t, ps, htk, rfl, V1, AD, K1⟩ := hrel
    clear V0
    by_cases hlt : t < k
    · have htn : t < n := by have := HKN.out; omega
      have hlr : (ws.map fun x => A * x % S).length = n := by rw [List.length_map]; exact HN.out
      have hlp : (ws.map fun x => A * x / S).length = n := by rw [List.length_map]; exact HN.out
      obtain ⟨i, hi, hpl⟩ := HO.out.at_ (s := t) (by rw [hlr]; exact htn)
      rw [hlr] at hi
      have Z2 := Z1.out.same (K1.out.obj g Z1.out.lt NG.out)
      have c1 : wr.cell? ⟨g, t, none⟩ = some (.int .i64 (i : Int)) := by rw [← hpl]; exact Z2.cell htn
      have NX := hid (AD.out.next HO.out (by rw [hlr]; exact htn) (by rw [hlp, hlr]) (by rw [hlr]; exact hi) hpl)
      obtain ⟨r0, r1⟩ := AD.out.room HA.out.1 HS0.out HW.out HO.out HK.out.1 hlt (by rw [HN.out]; exact hi) hpl
      have c2 := V1.out.cell hi
      have f2 := V1.out.frz i
      obtain ⟨x, hx⟩ : ∃ x, gd ps i = x := ⟨_, rfl⟩
      rw [hx] at NX r0 r1 c2
      have V2 := hid (V1.out.set hi (x + 1))
      have K2 := hid (K1.out.trans (Kp.set wr gp i (.int .u64 (x + 1))) (fun _ _ e => e))
      have wx : IntKind.u64.wrap (x + 1) = x + 1 := by rw [IntKind.wrap_u64]; have := HA.out.2; omega
      have t0 : (0 : Int) ≤ (t : Int) := by omega
      have t1 : (t : Int) < (k : Int) := by omega
      have i0 : (0 : Int) ≤ (i : Int) := by omega
      have i1 : (i : Int) < (n : Int) := by omega
      have wt : IntKind.i64.wrap ((t : Int) + 1) = ((t + 1 : Nat) : Int) := by rw [IntKind.wrap_i64]; omega
      have HLT := hid hlt
      clear Z2 hpl hi htn hlr hlp r0 r1 hx
      go_wp2
      go_roundw
      case rel => exact ⟨t + 1, _, HLT.out, by go_num, V2, NX, K2⟩
      case measure => have := HLT.out; simp [intOf]; omega
    · obtain rfl : t = k := by omega
      have HSH := hid (AD.out.done HA.out.1 HS0.out HW.out HO.out HK.out.1 HK.out.2)
      go_wp2
      go_ret2
      exact ⟨gp, ps, rfl, V1.out, HSH.out, L1.out, BW.out.trans (Kp.below K1.out BW.out.size (fun j hj e => by have := L1.out; omega))⟩
end Go.Proofs.Ytkmlhchkidddmaa.Ss
