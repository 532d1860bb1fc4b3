/-
  RfB
-/
import Derived.Test.YtlhbgaiiehljpaaGreatGAa
import Derived.Test.YtlhbgaiiehljpaaGreatGAj
import Derived.Deep.RegionHeld3
import Derived.ArgAppend
namespace Go.Proofs.YtlhbgaiiehljpaaGreat.Ss
open Go.RowKit Go.Deep BigM
set_option linter.unusedVariables false
set_option linter.unusedSimpArgs false
set_option maxHeartbeats 8000000
set_option maxRecDepth 100000
attribute [local go_sem ↓] Go.wp_at_zero Go.wp_at_succ
theorem Ord.pw {rs pl : List Int} (h : Ord rs pl) : pl.Pairwise (lt (rr rs)) := by
 rw [List.pairwise_iff_getElem]
 intro i j hi hj hij
 have := h.so i j (Nat.zero_le _) hij (by rw [← h.len]; exact hj)
 rw [gd_get hi, gd_get hj] at this
 exact this
theorem Ord.uniq {rs p q : List Int} (hp : Ord rs p) (hq : Ord rs q) : p = q :=
 List.Perm.eq_of_pairwise (fun a b _ _ h1 h2 => by unfold lt at h1 h2; omega) hp.pw hq.pw (hp.pm.trans hq.pm.symm)
theorem gd_ext {p q : List Int} (hl : p.length = q.length) (h : ∀ i, i < q.length → gd p i = gd q i) : p = q := by
 apply List.ext_getElem hl
 intro i h1 h2
 rw [← gd_get h1, ← gd_get h2]
 exact h i h2
theorem Ad.uniq {pp pl p q : List Int} {t : Nat} (hp : Ad pp pl p t) (hq : Ad pp pl q t) : p = q :=
 gd_ext (by rw [hp.len, hq.len]) (fun i hi => by rw [hq.len] at hi; rw [hp.at_ i hi, hq.at_ i hi])
/-- what Share is to give. -/
def ShAd (A S : Int) (ws ps : List Int) : Prop := ∃ pl k, Ord (ws.map fun x => A * x % S) pl ∧ Ad (ws.map fun x => A * x / S) pl ps k ∧ A = sumL (ws.map fun x => A * x / S) + k
theorem ShAd.uniq {A S : Int} {ws p q : List Int} (hp : ShAd A S ws p) (hq : ShAd A S ws q) : p = q := by
 obtain ⟨pl, k, o1, a1, e1⟩ := hp
 obtain ⟨ql, m, o2, a2, e2⟩ := hq
 obtain rfl : pl = ql := o1.uniq o2
 obtain rfl : k = m := by omega
 exact a1.uniq a2
/-- the digits' blocks stay. -/
def Dg (w w' : World) : Prop := ∀ (b : Nat) (cur : Array Value), w.heap[b]? = some (.cells cur 36 (0, 0)) → w'.heap[b]? = some (.cells cur 36 (0, 0))
theorem Dg.refl (w : World) : Dg w w := fun _ _ h => h
theorem Dg.trans {a b c : World} (h1 : Dg a b) (h2 : Dg b c) : Dg a c := fun g cur h => h2 g cur (h1 g cur h)
theorem Dg.below {w w' : World} (h : Below w.heap.size w w') : Dg w w' := fun b cur e => (h.block b (Array.getElem?_eq_some_iff.1 e).1).trans e
theorem Dg.set {w : World} {g i : Nat} {v : Value} {e : TypeId} {cs : Array Value} (he : e ≠ 36) (hg : w.heap[g]? = some (.cells cs e (0, 0))) : Dg w (w.setCell ⟨g, i, none⟩ v) := fun b cur hb => by
 by_cases c : b = g
 ·subst c
  rw [hg] at hb
  injection hb with hb
  injection hb with h1 h2
  exact absurd h2 he
 ·exact ((Kp.set w g i v).obj b (Array.getElem?_eq_some_iff.1 hb).1 c).trans hb
theorem share_ad (A S : Int) (ws : List Int) (b off cap : Nat) (w : World) (hA : Word A) (hws : ∀ x ∈ ws, Word x) (h0 : 0 < ws.length) (hn : ws.length ≤ 17592186044416) (hr : Rw w b off ws) (hS : sumL ws = S) (hS0 : 0 < S) (hS1 : S < 18446744073709551616) :
  Calls Tryz.prog 61 #[.int .u64 A, .slice (some ⟨b, off, none⟩) ws.length cap] w fun e w' => ∃ gp ps, e = .returned (.tuple #[.slice (some ⟨gp, 0, none⟩) ws.length ws.length, .int .i64 0]) ∧ Uw w' gp ws.length ps ∧ ShAd A S ws ps ∧ w.heap.size ≤ gp ∧ Below w.heap.size w w' := by
 have C := hid (sum_w cap w hws hn hr)
 rw [show sumV ws = S from by unfold sumV; rw [hS, if_pos hS1], show sumE ws = 0 from by unfold sumE; rw [hS, if_pos hS1]] at C
 have CC := hid (cut_any A S ws b off cap w hA hws hS hS0 hS1 hn hr)
 have hsh := shr_of (A := A) (ws := ws) (by rw [hS]; exact hS0)
 rw [hS] at hsh
 obtain ⟨k, hk⟩ := Int.eq_ofNat_of_zero_le hsh.l0
 have hk1 := hsh.l1
 rw [hk] at hk1 CC
 have hk2 : k ≤ ((ws.map fun w => A * w % S).filter fun q => decide (0 < q)).length := by omega
 have HKN := hid (show k ≤ ws.length from by
  have := List.length_filter_le (fun q => decide (0 < q)) (ws.map fun w => A * w % S)
  rw [List.length_map] at this
  omega)
 have HK := hid (And.intro hk2 (show A = sumL (ws.map fun x => A * x / S) + k by omega))
 have HW := hid (show ∀ i, i < ws.length → 0 ≤ gd ws i ∧ gd ws i ≤ S from fun i hi => by rw [← hS]; exact word_le hws hi)
 have HA := hid hA
 have HS0 := hid hS0
 obtain ⟨n, hnn⟩ : ∃ n, ws.length = n := ⟨_, rfl⟩
 have HN := hid hnn
 have hn' := hn
 rw [hnn] at C CC h0 HKN hn' ⊢
 have e0 : ((n : Int) == 0) = false := by simp; omega
 have eS : (S == 0) = false := by simp; omega
 have kn : (k : Int) ≤ (n : Int) := by have := HKN.out; omega
 have k0 : (0 : Int) ≤ (k : Int) := by omega
 clear hws hn hr hS hnn hA hS0 hS1 hsh hk hk1 hk2
 go_enter Tryz.func61, Tryz.ntmps61
 go_upto_region 9 with (first | (go_at_call 29; with_reducible refine C.out.mono ?_; rintro e w1 ⟨rfl, h1⟩; have h1 := h1.symm; subst h1) | (go_at_call 81; with_reducible refine CC.out.mono ?_; rintro e w1 ⟨gp, gr, rfl, z1, z2, z3, z4, z5, z6⟩; have U1 := hid z1; have U2 := hid z2; have NE := hid z3; have L1 := hid z4; have B1 := hid z6; clear z1 z2 z3 z4 z5 z6))
 have CG := hid (greatest_any _ gr n w1 U2.out hn')
 clear C CC e0 eS
 go_upto_region 10 with (go_at_call 82; with_reducible refine CG.out.mono ?_; rintro e w2 ⟨g, pl, rfl, z1, z2, z3, z4⟩; have Z1 := hid z1; have HO := hid z2; have L2 := hid z3; have B2 := hid z4; clear z1 z2 z3 z4)
 have V0 := hid (U1.out.on B2.out)
 have NG := hid (show g ≠ gp from fun e => by have h1 := U1.out.lt; have h2 := L2.out; omega)
 have BW := hid (B1.out.trans (B2.out.mono B1.out.size))
 clear CG U1 U2 B1 B2 NE
 go_loopw [39] (fun iv wr => ∃ t ps, t ≤ k ∧ iv = .int .i64 (t : Nat) ∧ Hid (Uw wr gp n ps) ∧ Hid (Ad (ws.map fun x => A * x / S) pl ps t) ∧ Hid (Kp (fun b => b = gp) w2 wr)) (fun iv _ => k - (intOf iv).toNat)
 case atStart => exact ⟨0, _, Nat.zero_le _, rfl, V0, Ad.start _ _, Kp.refl _ _⟩
 case round =>
  obtain ⟨t, ps, htk, rfl, V1, AD, K1⟩ := hrel
  clear V0
  by_cases hlt : t < k
  ·have htn : t < n := by have := HKN.out; omega
   have hlr : (ws.map fun x => A * x % S).length = n := by rw [List.length_map]; exact HN.out
   have hlp : (ws.map fun x => A * x / S).length = n := by rw [List.length_map]; exact HN.out
   obtain ⟨i, hi, hpl⟩ := HO.out.at_ (s := t) (by rw [hlr]; exact htn)
   rw [hlr] at hi
   have Z2 := Z1.out.same (K1.out.obj g Z1.out.lt NG.out)
   have c1 : wr.cell? ⟨g, t, none⟩ = some (.int .i64 (i : Int)) := by rw [← hpl]; exact Z2.cell htn
   have NX := hid (AD.out.next HO.out (by rw [hlr]; exact htn) (by rw [hlp, hlr]) (by rw [hlr]; exact hi) hpl)
   obtain ⟨r0, r1⟩ := AD.out.room HA.out.1 HS0.out HW.out HO.out HK.out.1 hlt (by rw [HN.out]; exact hi) hpl
   have c2 := V1.out.cell hi
   have f2 := V1.out.frz i
   obtain ⟨x, hx⟩ : ∃ x, gd ps i = x := ⟨_, rfl⟩
   rw [hx] at NX r0 r1 c2
   have V2 := hid (V1.out.set hi (x + 1))
   have K2 := hid (K1.out.trans (Kp.set wr gp i (.int .u64 (x + 1))) (fun _ _ e => e))
   have wx : IntKind.u64.wrap (x + 1) = x + 1 := by rw [IntKind.wrap_u64]; have := HA.out.2; omega
   have t0 : (0 : Int) ≤ (t : Int) := by omega
   have t1 : (t : Int) < (k : Int) := by omega
   have i0 : (0 : Int) ≤ (i : Int) := by omega
   have i1 : (i : Int) < (n : Int) := by omega
   have wt : IntKind.i64.wrap ((t : Int) + 1) = ((t + 1 : Nat) : Int) := by rw [IntKind.wrap_i64]; omega
   have HLT := hid hlt
   clear Z2 hpl hi htn hlr hlp r0 r1 hx
   go_wp2
   go_roundw
   case rel => exact ⟨t + 1, _, HLT.out, by go_num, V2, NX, K2⟩
   case measure => have := HLT.out; simp [intOf]; omega
  ·obtain rfl : t = k := by omega
   have HSH := hid (show ShAd A S ws ps from ⟨pl, t, HO.out, AD.out, HK.out.2⟩)
   go_wp2
   go_ret2
   exact ⟨gp, ps, rfl, V1.out, HSH.out, L1.out, BW.out.trans (Kp.below K1.out BW.out.size (fun j hj e => by have := L1.out; omega))⟩
end Go.Proofs.YtlhbgaiiehljpaaGreat.Ss
namespace Go.Proofs.YtlhbgaiiehljpaaGreat.Ss
open Go.RowKit Go.Deep BigM
set_option linter.unusedVariables false
set_option linter.unusedSimpArgs false
set_option maxHeartbeats 8000000
set_option maxRecDepth 100000
attribute [local go_sem ↓] Go.wp_at_zero Go.wp_at_succ
/-- the rests so far, in whole numbers. -/
def RsI (w : World) (rs : List Int) (i : Nat) (us : List Value) : Prop := us.length = i ∧ ∀ j, j < i → ∃ u, us[j]? = some u ∧ Bn w u (gd rs j)
theorem RsI.start (w : World) (rs : List Int) : RsI w rs 0 [] := ⟨rfl, fun j hj => by omega⟩
theorem RsI.next {w : World} {rs : List Int} {i : Nat} {us : List Value} {u : Value} (h : RsI w rs i us) (hu : Bn w u (gd rs i)) : RsI w rs (i + 1) (us ++ [u]) := ⟨by simp [h.1], fun j hj => by
 by_cases c : j < i
 ·obtain ⟨u', e, b⟩ := h.2 j c
  exact ⟨u', by rw [List.getElem?_append_left (by rw [h.1]; exact c)]; exact e, b⟩
 ·obtain rfl : j = i := by omega
  exact ⟨u, by rw [List.getElem?_append_right (by rw [h.1]; exact Nat.le_refl _), h.1]; simp, hu⟩⟩
theorem RsI.set {w : World} {R : List Int} {n j : Nat} {us : List Value} {u : Value} (h : RsI w R n us) (hl : R.length = n) (hj : j < n) (hu : Bn w u 0) : RsI w (R.set j 0) n (us.set j u) := ⟨by rw [List.length_set]; exact h.1, fun i hi => by
 rw [gd_set (by omega)]
 by_cases c : i = j
 ·subst c
  rw [if_pos rfl]
  exact ⟨u, by rw [List.getElem?_set_self (by rw [h.1]; exact hi)], hu⟩
 ·rw [if_neg c]
  obtain ⟨u', e, b⟩ := h.2 i hi
  exact ⟨u', by rw [List.getElem?_set_ne (fun e => c e.symm)]; exact e, b⟩⟩
end Go.Proofs.YtlhbgaiiehljpaaGreat.Ss
namespace Go.Proofs.YtlhbgaiiehljpaaGreat.Ss
open Go.RowKit Go.Deep BigM
set_option linter.unusedVariables false
set_option linter.unusedSimpArgs false
set_option maxHeartbeats 8000000
set_option maxRecDepth 100000
attribute [local go_sem ↓] Go.wp_at_zero Go.wp_at_succ
/-- a slice reads as these words. -/
def Rq (w : World) (q : Option Addr) (l : List Int) : Prop := 0 < l.length → ∃ b off, q = some ⟨b, off, none⟩ ∧ Rw w b off l
theorem Rq.on {w w' : World} {q : Option Addr} {l : List Int} (h : Rq w q l) (hb : Below w.heap.size w w') : Rq w' q l := fun h0 => by
 obtain ⟨b, off, e, r⟩ := h h0
 exact ⟨b, off, e, r.on hb⟩
/-- what Share says, whatever the weights. -/
def ShR (A : Int) (ws : List Int) (e : Int) (l : List Int) : Prop :=
 (0 < ws.length ∧ 0 < sumL ws ∧ sumL ws < 18446744073709551616 ∧ e = 0 ∧ ShAd A (sumL ws) ws l) ∨
 (0 < ws.length ∧ ¬ (0 < sumL ws ∧ sumL ws < 18446744073709551616) ∧ e = (if sumL ws = 0 then 11 else 10) ∧ l = []) ∨ (ws.length = 0 ∧ e = 1 ∧ l = [])
theorem ShR.uniq {A : Int} {ws : List Int} {e e' : Int} {l l' : List Int} (h : ShR A ws e l) (h' : ShR A ws e' l') : e = e' ∧ l = l' := by
 rcases h with ⟨a1, a2, a3, a4, a5⟩ | ⟨a1, a2, a3, a4⟩ | ⟨a1, a2, a3⟩ <;> rcases h' with ⟨b1, b2, b3, b4, b5⟩ | ⟨b1, b2, b3, b4⟩ | ⟨b1, b2, b3⟩
 ·exact ⟨by omega, a5.uniq b5⟩
 ·exact absurd ⟨a2, a3⟩ b2
 ·omega
 ·exact absurd ⟨b2, b3⟩ a2
 ·exact ⟨by rw [a3, b3], by rw [a4, b4]⟩
 ·omega
 ·omega
 ·omega
 ·exact ⟨by omega, by rw [a3, b3]⟩
/-- a slice of one's own, full, with these words. -/
def Full (w : World) (H : Nat) (q : Option Addr) (l : List Int) : Prop := (q = none ∧ l = []) ∨ ∃ g, q = some ⟨g, 0, none⟩ ∧ H ≤ g ∧ Uw w g l.length l
theorem Full.on {w w' : World} {H : Nat} {q : Option Addr} {l : List Int} (h : Full w H q l) (hb : Below w.heap.size w w') : Full w' H q l := by
 rcases h with h | ⟨g, rfl, z, u⟩
 ·exact .inl h
 ·exact .inr ⟨g, rfl, z, u.on hb⟩
theorem share_all (A : Int) (ws : List Int) (n : Nat) (q : Option Addr) (cap : Nat) (w : World) (hA : Word A) (hws : ∀ x ∈ ws, Word x) (hl : ws.length = n) (hn : ws.length ≤ 17592186044416) (hr : Rq w q ws) :
  Calls Tryz.prog 61 #[.int .u64 A, .slice q n cap] w fun e w' => ∃ p er l, e = .returned (.tuple #[.slice p l.length l.length, .int .i64 er]) ∧ Full w' w.heap.size p l ∧ ShR A ws er l ∧ Below w.heap.size w w' := by
 subst hl
 by_cases h0 : 0 < ws.length
 ·obtain ⟨b, off, rfl, hR⟩ := hr h0
  have hge := sumL_nonneg ws (fun x hx => (hws x hx).1)
  by_cases hS : sumL ws < 18446744073709551616
  ·by_cases hz : sumL ws = 0
   ·refine (share_zero A ws b off cap w hws h0 hn hR hz).mono ?_
    rintro e w' ⟨rfl, rfl⟩
    exact ⟨none, 11, [], rfl, .inl ⟨rfl, rfl⟩, .inr (.inl ⟨h0, by omega, by rw [if_pos hz], rfl⟩), Below.refl _ _⟩
   ·refine (share_ad A _ ws b off cap w hA hws h0 hn hR rfl (by omega) hS).mono ?_
    rintro e w' ⟨gp, ps, rfl, z1, z2, z3, z4⟩
    have hlp : ps.length = ws.length := z1.len
    exact ⟨some ⟨gp, 0, none⟩, 0, ps, by rw [hlp], .inr ⟨gp, rfl, z3, by rw [hlp]; exact z1⟩, .inl ⟨h0, by omega, hS, rfl, z2⟩, z4⟩
  ·refine (share_over A ws b off cap w hws h0 hn hR hS).mono ?_
   rintro e w' ⟨rfl, rfl⟩
   exact ⟨none, 10, [], rfl, .inl ⟨rfl, rfl⟩, .inr (.inl ⟨h0, by omega, by rw [if_neg (by omega)], rfl⟩), Below.refl _ _⟩
 ·have e9 : ws.length = 0 := by omega
  rw [e9]
  refine (share_none A q cap w).mono ?_
  rintro e w' ⟨rfl, rfl⟩
  exact ⟨none, 1, [], rfl, .inl ⟨rfl, rfl⟩, .inr (.inr ⟨e9, rfl, rfl⟩), Below.refl _ _⟩
end Go.Proofs.YtlhbgaiiehljpaaGreat.Ss
namespace Go.Proofs.YtlhbgaiiehljpaaGreat.Ss
open Go.RowKit Go.Deep BigM
set_option linter.unusedVariables false
set_option linter.unusedSimpArgs false
set_option maxHeartbeats 8000000
set_option maxRecDepth 100000
attribute [local go_sem ↓] Go.wp_at_zero Go.wp_at_succ
theorem ShR.len {A : Int} {ws : List Int} {e : Int} {l : List Int} (h : ShR A ws e l) : l.length ≤ ws.length := by
 rcases h with ⟨a1, a2, a3, a4, pl, k, _, a5, _⟩ | ⟨a1, a2, a3, rfl⟩ | ⟨a1, a2, rfl⟩
 ·rw [a5.len, List.length_map]; exact Nat.le_refl _
 ·simp
 ·simp
end Go.Proofs.YtlhbgaiiehljpaaGreat.Ss
namespace Go.Proofs.YtlhbgaiiehljpaaGreat.Ss
open Go.RowKit Go.Deep BigM
set_option linter.unusedVariables false
set_option linter.unusedSimpArgs false
set_option maxHeartbeats 8000000
set_option maxRecDepth 100000
attribute [local go_sem ↓] Go.wp_at_zero Go.wp_at_succ
/-- a fund: whose, and how much. -/
structure Fd where
 mb : Int
 ct : Int
/-- funds that may be read. -/
def Fz (w : World) (q : Option Addr) (l : List Fd) : Prop := ∀ i (h : i < l.length), ∃ b off, q = some ⟨b, off, none⟩ ∧ b < w.heap.size ∧ w.cell? ⟨b, off + i * 2, none⟩ = some (.int .u32 l[i].mb) ∧ w.cell? ⟨b, off + i * 2 + 1, none⟩ = some (.int .u64 l[i].ct)
theorem Fz.on {w w' : World} {q : Option Addr} {l : List Fd} (h : Fz w q l) (hb : Below w.heap.size w w') : Fz w' q l := fun i hi => by
 obtain ⟨b, off, e, hl, h1, h2⟩ := h i hi
 exact ⟨b, off, e, Nat.lt_of_lt_of_le hl hb.size, (hb.cell (p := ⟨b, off + i * 2, none⟩) hl).trans h1, (hb.cell (p := ⟨b, off + i * 2 + 1, none⟩) hl).trans h2⟩
def cts (l : List Fd) : List Int := l.map Fd.ct
theorem cts_len (l : List Fd) : (cts l).length = l.length := by simp [cts]
theorem cts_gd {l : List Fd} {i : Nat} (h : i < l.length) : gd (cts l) i = l[i].ct := by
 rw [gd_get (by rw [cts_len]; exact h)]
 simp [cts]
def mn (a b : Int) : Int := if a < b then a else b
theorem mn_min (a b : Int) : min a b = mn a b := by unfold mn; split <;> omega
theorem mn_bd {a b : Int} (ha : 0 ≤ a) (hb : 0 ≤ b) : 0 ≤ mn a b ∧ mn a b ≤ a ∧ mn a b ≤ b := by unfold mn; split <;> omega
/-- how what is left is shared. -/
def Shd (x : Int) (ws l : List Int) : Prop := (0 < sumL ws ∧ ShR x ws 0 l) ∨ (sumL ws = 0 ∧ l = List.replicate ws.length 0)
theorem Shd.uniq {x : Int} {ws l l' : List Int} (h : Shd x ws l) (h' : Shd x ws l') : l = l' := by
 rcases h with ⟨a1, a2⟩ | ⟨a1, a2⟩ <;> rcases h' with ⟨b1, b2⟩ | ⟨b1, b2⟩
 ·exact (a2.uniq b2).2
 ·omega
 ·omega
 ·rw [a2, b2]
theorem ShR.len0 {x : Int} {ws l : List Int} (h : ShR x ws 0 l) : l.length = ws.length := by
 rcases h with ⟨a1, a2, a3, a4, pl, k, _, a5, _⟩ | ⟨a1, a2, a3, rfl⟩ | ⟨a1, a2, rfl⟩
 ·rw [a5.len, List.length_map]
 ·exfalso; split at a3 <;> omega
 ·omega
theorem Shd.len {x : Int} {ws l : List Int} (h : Shd x ws l) : l.length = ws.length := by
 rcases h with ⟨a1, a2⟩ | ⟨a1, rfl⟩
 ·exact a2.len0
 ·simp
theorem shared_any (A : Int) (ws : List Int) (n g : Nat) (w : World) (hA : Word A) (hws : ∀ x ∈ ws, Word x) (hl : ws.length = n) (hn : n ≤ 17592186044416) (hr : Uw w g n ws) (hS : sumL ws < 18446744073709551616) :
  Calls Tryz.prog 30 #[.int .u64 A, .slice (some ⟨g, 0, none⟩) n n] w fun e w' => ∃ g' l, e = .returned (.slice (some ⟨g', 0, none⟩) n n) ∧ w.heap.size ≤ g' ∧ Uw w' g' n l ∧ Shd A ws l ∧ Below w.heap.size w w' := by
 have C := hid (share_all A ws n (some ⟨g, 0, none⟩) n w hA hws hl (by omega) (fun _ => ⟨g, 0, rfl, hr.rw⟩))
 have HG := hid (sumL_nonneg ws (fun x hx => (hws x hx).1))
 have HL := hid hl
 have HS := hid hS
 have hmk := make_w n hn
 clear hA hws hl hr hS
 go_enter Tryz.func30, Tryz.ntmps30
 go_upto_region 2 with (go_at_call 61; with_reducible refine C.out.mono ?_; rintro e w1 ⟨p, er, l, rfl, h1, h2, h3⟩; have H1 := hid h1; have H2 := hid h2; have H3 := hid h3; clear h1 h2 h3 C)
 by_cases h0 : er = 0
 ·subst h0
  have HL2 := hid (H2.out.len0)
  have HP := hid (show 0 < sumL ws from by
   rcases H2.out with ⟨a1, a2, _⟩ | ⟨a1, a2, a3, _⟩ | ⟨_, a2, _⟩
   ·exact a2
   ·exfalso; split at a3 <;> omega
   ·omega)
  obtain ⟨g', rfl, hg', ug⟩ : ∃ g', p = some ⟨g', 0, none⟩ ∧ w.heap.size ≤ g' ∧ Uw w1 g' l.length l := by
   rcases H1.out with ⟨_, rfl⟩ | ⟨g', e, z, u⟩
   ·exfalso
    have h1 := HL2.out
    have h2 := HP.out
    have h3 : ws = [] := List.length_eq_zero_iff.1 (by simpa using h1.symm)
    subst h3
    simp [sumL] at h2
   ·exact ⟨g', e, z, u⟩
  have e1 : l.length = n := by rw [HL2.out, HL.out]
  rw [e1] at ug ⊢
  have UG := hid ug
  have HG' := hid hg'
  clear ug hg' e1 H1
  go_wp2
  go_ret
  exact ⟨g', l, rfl, HG'.out, UG.out, .inl ⟨HP.out, H2.out⟩, H3.out⟩
 ·have hz : sumL ws = 0 := by
   have := HG.out
   have := HS.out
   rcases H2.out with ⟨a1, a2, a3, a4, _⟩ | ⟨a1, a2, a3, _⟩ | ⟨a1, _⟩
   ·exact absurd a4 h0
   ·omega
   ·have h3 : ws = [] := List.length_eq_zero_iff.1 a1
    subst h3
    rfl
  have HZ := hid hz
  have e0 : (er != 0) = true := by simp [h0]
  have m1 := hmk w1
  obtain ⟨W2, hW2⟩ : ∃ W, w1.alloc (.cells (madeCells #[.int .u64 0] n) 31) = W := ⟨_, rfl⟩
  have UW := hid (show Uw W2 w1.heap.size n (List.replicate n 0) from by rw [← hW2]; exact uw_made w1 n)
  have BW := hid (show Below w.heap.size w W2 from by rw [← hW2]; exact H3.out.alloc H3.out.size _)
  rw [hW2] at m1
  clear hz h0 hmk hW2
  go_wp2
  go_ret
  exact ⟨w1.heap.size, _, rfl, H3.out.size, UW.out, .inr ⟨HZ.out, by rw [HL.out]⟩, BW.out⟩
end Go.Proofs.YtlhbgaiiehljpaaGreat.Ss
namespace Go.Proofs.YtlhbgaiiehljpaaGreat.Ss
open Go.RowKit Go.Deep BigM
set_option linter.unusedVariables false
set_option linter.unusedSimpArgs false
set_option maxHeartbeats 8000000
set_option maxRecDepth 100000
theorem ball (w : World) (o : Obj) : Below w.heap.size w (w.alloc o) := (Below.refl _ _).alloc (Nat.le_refl _) _
theorem btr {a b c : World} (h : Below a.heap.size a b) (k : Below b.heap.size b c) : Below a.heap.size a c := h.trans (k.mono h.size)
theorem row_on {w w' : World} {g : Nat} {o : Obj} (h : w.heap[g]? = some o) (hb : Below w.heap.size w w') : w'.heap[g]? = some o := by
 rw [hb.block g (row_lt h)]; exact h
theorem setRow_kp (w : World) (g : Nat) (cs : Array Value) : Kp (fun b => b = g) w (w.setRow g cs) :=
 ⟨rfl, rfl, rfl, by simp [World.setRow], fun b _ hb => setRow_other w g b cs (fun e => hb e)⟩
theorem setRow_below {w W : World} {g : Nat} {cs : Array Value} (h : Below w.heap.size w W) (hg : w.heap.size ≤ g) : Below w.heap.size w (W.setRow g cs) := h.trans ((setRow_kp W g cs).below h.size (fun b hb e => by omega))
theorem set_below {w W : World} {g i : Nat} {v : Value} (h : Below w.heap.size w W) (hg : w.heap.size ≤ g) : Below w.heap.size w (W.setCell ⟨g, i, none⟩ v) := h.trans ((Kp.set W g i v).below h.size (fun b hb e => by omega))
theorem res_ct {P : Program} {fn : Func} {p q : Tmp} {ty : TypeId} (h : fn.results = #[.cell p ty, .tmp q]) (tmps : Array Value) (w : World) (g : Nat) (t : TypeId) (cs : Array Value) (fr : Nat × Nat) (d : TypeDesc) (v : Value)
  (hp : tmps.getD p undef = .pointer (some ⟨g, 0, none⟩)) (hq : tmps.getD q undef = v) (hg : w.heap[g]? = some (.cells cs t fr))
  (hu : P.underlying ty = some d) (hd : (match d with | .struct _ | .array _ _ => true | _ => false) = true) (hi : (P.info? ty).map (·.size) = some cs.size) :
  (results fn tmps).run P w = .ok (.tuple #[.agg cs, v]) w := by
 have hp' : tmps[p]?.getD undef = .pointer (some ⟨g, 0, none⟩) := by simpa using hp
 have hq' : tmps[q]?.getD undef = v := by simpa using hq
 simp [results, h, hp', hq', asAddr, run_loadVar_row w g t ty cs fr d hg hu hd hi]
theorem info26 : (Tryz.prog.info? 48).map (·.size) = some 4 := by kernel_rfl
theorem cv_info (o h lf : Int) (v : Value) : (Tryz.prog.info? 48).map (·.size) = some (#[.int .u64 o, .int .u64 h, v, .int .u64 lf] : Array Value).size := info26
theorem cv_size (o h lf o' h' lf' : Int) (v v' : Value) : (#[.int .u64 o, .int .u64 h, v, .int .u64 lf] : Array Value).size = (#[.int .u64 o', .int .u64 h', v', .int .u64 lf'] : Array Value).size := rfl
theorem cv_all (o h lf : Int) (p : Option Addr) (n c : Nat) : (#[.int .u64 o, .int .u64 h, .slice p n c, .int .u64 lf] : Array Value).all (·.oneCell') = true := by simp [Value.oneCell']
theorem reg_cut {P : Program} {id : Nat} {ops : Array Oper} {b : Bool} {Q : Exit → Act → World → Prop} {a : Act} {w : World} {X : Type} (F : Act → X → Act) (T : X → World → Prop)
  (h1 : (Code.region id ops b).wp P (fun e a' w' => match e with | .normal => ∃ x, a' = F a x ∧ T x w' | _ => False) a w)
  (h2 : ∀ x w', T x w' → Q .normal (F a x) w') : (Code.region id ops b).wp P Q a w :=
 wp_mono h1 (fun e a' w' h => by
  cases e with
  | normal => obtain ⟨x, rfl, ht⟩ := h; exact h2 x w' ht
  | _ => exact h.elim)
/-- a cover in memory. -/
def cvr (o h : Int) (v : Value) (lf : Int) : Array Value := #[.int .u64 o, .int .u64 h, v, .int .u64 lf]
theorem cvr_set2 (o h lf : Int) (v u : Value) : (cvr o h v lf).setIfInBounds 2 u = cvr o h u lf := by simp [cvr]
theorem cvr_set3 (o h lf x : Int) (v : Value) : (cvr o h v lf).setIfInBounds 3 (.int .u64 x) = cvr o h v x := by simp [cvr]
theorem row_set {w : World} {g i : Nat} {t : TypeId} {cs ds : Array Value} {v : Value} (h : w.heap[g]? = some (.cells cs t (0, 0))) (e : cs.setIfInBounds i v = ds) : (w.setCell ⟨g, i, none⟩ v).heap[g]? = some (.cells ds t (0, 0)) := by
 rw [← e]
 exact heap_setCell_same w g i cs t v h
end Go.Proofs.YtlhbgaiiehljpaaGreat.Ss
