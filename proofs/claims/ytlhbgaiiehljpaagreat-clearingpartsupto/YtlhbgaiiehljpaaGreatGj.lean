/-
  RfB
-/
import Derived.Test.YtlhbgaiiehljpaaGreatGh
import Derived.Test.YtlhbgaiiehljpaaGreatGi
namespace Go.Proofs.YtlhbgaiiehljpaaGreat.Ss
open Go.RowKit Go.Deep BigM
set_option linter.unusedVariables false
set_option linter.unusedSimpArgs false
set_option maxHeartbeats 8000000
set_option maxRecDepth 100000
attribute [local go_sem ↓] Go.wp_at_zero Go.wp_at_succ
theorem Ord.pw {rs pl : List Int} (h : Ord rs pl) : pl.Pairwise (lt (rr rs)) := by
  rw [List.pairwise_iff_getElem]
  intro i j hi hj hij
  have := h.so i j (Nat.zero_le _) hij (by rw [← h.len]; exact hj)
  rw [gd_get hi, gd_get hj] at this
  exact this
theorem Ord.uniq {rs p q : List Int} (hp : Ord rs p) (hq : Ord rs q) : p = q :=
  List.Perm.eq_of_pairwise (fun a b _ _ h1 h2 => by unfold lt at h1 h2; omega) hp.pw hq.pw (hp.pm.trans hq.pm.symm)
theorem gd_ext {p q : List Int} (hl : p.length = q.length) (h : ∀ i, i < q.length → gd p i = gd q i) : p = q := by
  apply List.ext_getElem hl
  intro i h1 h2
  rw [← gd_get h1, ← gd_get h2]
  exact h i h2
theorem Ad.uniq {pp pl p q : List Int} {t : Nat} (hp : Ad pp pl p t) (hq : Ad pp pl q t) : p = q :=
  gd_ext (by rw [hp.len, hq.len]) (fun i hi => by rw [hq.len] at hi; rw [hp.at_ i hi, hq.at_ i hi])
/-- what Share is to give. -/
def ShAd (A S : Int) (ws ps : List Int) : Prop := ∃ pl k, Ord (ws.map fun x => A * x % S) pl ∧ Ad (ws.map fun x => A * x / S) pl ps k ∧ A = sumL (ws.map fun x => A * x / S) + k
theorem ShAd.uniq {A S : Int} {ws p q : List Int} (hp : ShAd A S ws p) (hq : ShAd A S ws q) : p = q := by
  obtain ⟨pl, k, o1, a1, e1⟩ := hp
  obtain ⟨ql, m, o2, a2, e2⟩ := hq
  obtain rfl : pl = ql := o1.uniq o2
  obtain rfl : k = m := by omega
  exact a1.uniq a2
/-- the digits' blocks stay. -/
def Dg (w w' : World) : Prop := ∀ (b : Nat) (cur : Array Value), w.heap[b]? = some (.cells cur 36 (0, 0)) → w'.heap[b]? = some (.cells cur 36 (0, 0))
theorem Dg.refl (w : World) : Dg w w := fun _ _ h => h
theorem Dg.trans {a b c : World} (h1 : Dg a b) (h2 : Dg b c) : Dg a c := fun g cur h => h2 g cur (h1 g cur h)
theorem Dg.below {w w' : World} (h : Below w.heap.size w w') : Dg w w' := fun b cur e => (h.block b (Array.getElem?_eq_some_iff.1 e).1).trans e
theorem Dg.grown {w w' : World} {r : Option Nat} {e : TypeId} (h : w.grownBy w' r) (he : e ≠ 36) (hr : ∀ g, r = some g → ∃ cur, w.heap[g]? = some (.cells cur e (0, 0))) : Dg w w' := fun b cur hb => by
  have hl := (Array.getElem?_eq_some_iff.1 hb).1
  by_cases c : r = some b
  · obtain ⟨cur', e'⟩ := hr b c
    rw [e'] at hb
    injection hb with hb
    injection hb with h1 h2
    exact absurd h2 he
  · exact (h.block b hl (fun e => c e.symm)).trans hb
theorem Dg.set {w : World} {g i : Nat} {v : Value} {e : TypeId} {cs : Array Value} (he : e ≠ 36) (hg : w.heap[g]? = some (.cells cs e (0, 0))) : Dg w (w.setCell ⟨g, i, none⟩ v) := fun b cur hb => by
  by_cases c : b = g
  · subst c
    rw [hg] at hb
    injection hb with hb
    injection hb with h1 h2
    exact absurd h2 he
  · exact ((Kp.set w g i v).obj b (Array.getElem?_eq_some_iff.1 hb).1 c).trans hb
theorem share_ad (A S : Int) (ws : List Int) (b off cap : Nat) (w : World) (hA : Word A) (hws : ∀ x ∈ ws, Word x) (h0 : 0 < ws.length) (hn : ws.length ≤ 17592186044416) (hr : Rw w b off ws) (hS : sumL ws = S) (hS0 : 0 < S) (hS1 : S < 18446744073709551616) :
    Calls Tryz.prog 61 #[.int .u64 A, .slice (some ⟨b, off, none⟩) ws.length cap] w fun e w' => ∃ gp ps, e = .returned (.tuple #[.slice (some ⟨gp, 0, none⟩) ws.length ws.length, .int .i64 0]) ∧ Uw w' gp ws.length ps ∧ ShAd A S ws ps ∧ w.heap.size ≤ gp ∧ Below w.heap.size w w' := by
  have C := hid (sum_w cap w hws hn hr)
  rw [show sumV ws = S from by unfold sumV; rw [hS, if_pos hS1], show sumE ws = 0 from by unfold sumE; rw [hS, if_pos hS1]] at C
  have CC := hid (cut_any A S ws b off cap w hA hws hS hS0 hS1 hn hr)
  have hsh := shr_of (A := A) (ws := ws) (by rw [hS]; exact hS0)
  rw [hS] at hsh
  obtain ⟨k, hk⟩ := Int.eq_ofNat_of_zero_le hsh.l0
  have hk1 := hsh.l1
  rw [hk] at hk1 CC
  have hk2 : k ≤ ((ws.map fun w => A * w % S).filter fun q => decide (0 < q)).length := by omega
  have HKN := hid (show k ≤ ws.length from by
    have := List.length_filter_le (fun q => decide (0 < q)) (ws.map fun w => A * w % S)
    rw [List.length_map] at this
    omega)
  have HK := hid (And.intro hk2 (show A = sumL (ws.map fun x => A * x / S) + k by omega))
  have HW := hid (show ∀ i, i < ws.length → 0 ≤ gd ws i ∧ gd ws i ≤ S from fun i hi => by rw [← hS]; exact word_le hws hi)
  have HA := hid hA
  have HS0 := hid hS0
  obtain ⟨n, hnn⟩ : ∃ n, ws.length = n := ⟨_, rfl⟩
  have HN := hid hnn
  have hn' := hn
  rw [hnn] at C CC h0 HKN hn' ⊢
  have e0 : ((n : Int) == 0) = false := by simp; omega
  have eS : (S == 0) = false := by simp; omega
  have kn : (k : Int) ≤ (n : Int) := by have := HKN.out; omega
  have k0 : (0 : Int) ≤ (k : Int) := by omega
  clear hws hn hr hS hnn hA hS0 hS1 hsh hk hk1 hk2
  go_enter Tryz.func61, Tryz.ntmps61
  go_upto_region 9 with (first | (go_at_call 29; with_reducible refine C.out.mono ?_; rintro e w1 ⟨rfl, h1⟩; have h1 := h1.symm; subst h1) | (go_at_call 81; with_reducible refine CC.out.mono ?_; rintro e w1 ⟨gp, gr, rfl, z1, z2, z3, z4, z5, z6⟩; have U1 := hid z1; have U2 := hid z2; have NE := hid z3; have L1 := hid z4; have B1 := hid z6; clear z1 z2 z3 z4 z5 z6))
  have CG := hid (greatest_any _ gr n w1 U2.out hn')
  clear C CC e0 eS
  go_upto_region 10 with (go_at_call 82; with_reducible refine CG.out.mono ?_; rintro e w2 ⟨g, pl, rfl, z1, z2, z3, z4⟩; have Z1 := hid z1; have HO := hid z2; have L2 := hid z3; have B2 := hid z4; clear z1 z2 z3 z4)
  have V0 := hid (U1.out.on B2.out)
  have NG := hid (show g ≠ gp from fun e => by have h1 := U1.out.lt; have h2 := L2.out; omega)
  have BW := hid (B1.out.trans (B2.out.mono B1.out.size))
  clear CG U1 U2 B1 B2 NE
  go_loopw [39] (fun iv wr => ∃ t ps, t ≤ k ∧ iv = .int .i64 (t : Nat) ∧ Hid (Uw wr gp n ps) ∧ Hid (Ad (ws.map fun x => A * x / S) pl ps t) ∧ Hid (Kp (fun b => b = gp) w2 wr)) (fun iv _ => k - (intOf iv).toNat)
  case atStart => exact ⟨0, _, Nat.zero_le _, rfl, V0, Ad.start _ _, Kp.refl _ _⟩
  case round =>
    obtain ⟨t, ps, htk, rfl, V1, AD, K1⟩ := hrel
    clear V0
    by_cases hlt : t < k
    · have htn : t < n := by have := HKN.out; omega
      have hlr : (ws.map fun x => A * x % S).length = n := by rw [List.length_map]; exact HN.out
      have hlp : (ws.map fun x => A * x / S).length = n := by rw [List.length_map]; exact HN.out
      obtain ⟨i, hi, hpl⟩ := HO.out.at_ (s := t) (by rw [hlr]; exact htn)
      rw [hlr] at hi
      have Z2 := Z1.out.same (K1.out.obj g Z1.out.lt NG.out)
      have c1 : wr.cell? ⟨g, t, none⟩ = some (.int .i64 (i : Int)) := by rw [← hpl]; exact Z2.cell htn
      have NX := hid (AD.out.next HO.out (by rw [hlr]; exact htn) (by rw [hlp, hlr]) (by rw [hlr]; exact hi) hpl)
      obtain ⟨r0, r1⟩ := AD.out.room HA.out.1 HS0.out HW.out HO.out HK.out.1 hlt (by rw [HN.out]; exact hi) hpl
      have c2 := V1.out.cell hi
      have f2 := V1.out.frz i
      obtain ⟨x, hx⟩ : ∃ x, gd ps i = x := ⟨_, rfl⟩
      rw [hx] at NX r0 r1 c2
      have V2 := hid (V1.out.set hi (x + 1))
      have K2 := hid (K1.out.trans (Kp.set wr gp i (.int .u64 (x + 1))) (fun _ _ e => e))
      have wx : IntKind.u64.wrap (x + 1) = x + 1 := by rw [IntKind.wrap_u64]; have := HA.out.2; omega
      have t0 : (0 : Int) ≤ (t : Int) := by omega
      have t1 : (t : Int) < (k : Int) := by omega
      have i0 : (0 : Int) ≤ (i : Int) := by omega
      have i1 : (i : Int) < (n : Int) := by omega
      have wt : IntKind.i64.wrap ((t : Int) + 1) = ((t + 1 : Nat) : Int) := by rw [IntKind.wrap_i64]; omega
      have HLT := hid hlt
      clear Z2 hpl hi htn hlr hlp r0 r1 hx
      go_wp2
      go_roundw
      case rel => exact ⟨t + 1, _, HLT.out, by go_num, V2, NX, K2⟩
      case measure => have := HLT.out; simp [intOf]; omega
    · obtain rfl : t = k := by omega
      have HSH := hid (show ShAd A S ws ps from ⟨pl, t, HO.out, AD.out, HK.out.2⟩)
      go_wp2
      go_ret2
      exact ⟨gp, ps, rfl, V1.out, HSH.out, L1.out, BW.out.trans (Kp.below K1.out BW.out.size (fun j hj e => by have := L1.out; omega))⟩
end Go.Proofs.YtlhbgaiiehljpaaGreat.Ss
namespace Go.Proofs.YtlhbgaiiehljpaaGreat.Ss
open Go.RowKit Go.Deep BigM
set_option linter.unusedVariables false
set_option linter.unusedSimpArgs false
set_option maxHeartbeats 8000000
set_option maxRecDepth 100000
attribute [local go_sem ↓] Go.wp_at_zero Go.wp_at_succ
/-- the rests so far, in whole numbers. -/
def RsI (w : World) (rs : List Int) (i : Nat) (us : List Value) : Prop := us.length = i ∧ ∀ j, j < i → ∃ u, us[j]? = some u ∧ Bn w u (gd rs j)
theorem RsI.start (w : World) (rs : List Int) : RsI w rs 0 [] := ⟨rfl, fun j hj => by omega⟩
theorem RsI.next {w : World} {rs : List Int} {i : Nat} {us : List Value} {u : Value} (h : RsI w rs i us) (hu : Bn w u (gd rs i)) : RsI w rs (i + 1) (us ++ [u]) := ⟨by simp [h.1], fun j hj => by
  by_cases c : j < i
  · obtain ⟨u', e, b⟩ := h.2 j c
    exact ⟨u', by rw [List.getElem?_append_left (by rw [h.1]; exact c)]; exact e, b⟩
  · obtain rfl : j = i := by omega
    exact ⟨u, by rw [List.getElem?_append_right (by rw [h.1]; exact Nat.le_refl _), h.1]; simp, hu⟩⟩
theorem RsI.set {w : World} {R : List Int} {n j : Nat} {us : List Value} {u : Value} (h : RsI w R n us) (hl : R.length = n) (hj : j < n) (hu : Bn w u 0) : RsI w (R.set j 0) n (us.set j u) := ⟨by rw [List.length_set]; exact h.1, fun i hi => by
  rw [gd_set (by omega)]
  by_cases c : i = j
  · subst c
    rw [if_pos rfl]
    exact ⟨u, by rw [List.getElem?_set_self (by rw [h.1]; exact hi)], hu⟩
  · rw [if_neg c]
    obtain ⟨u', e, b⟩ := h.2 i hi
    exact ⟨u', by rw [List.getElem?_set_ne (fun e => c e.symm)]; exact e, b⟩⟩
end Go.Proofs.YtlhbgaiiehljpaaGreat.Ss
