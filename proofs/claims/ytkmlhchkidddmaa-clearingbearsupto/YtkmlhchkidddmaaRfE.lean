/-
  Lists compared; Share and the document's Share, whatever the weights.
-/
import Derived.Test.YtkmlhchkidddmaaRfD
namespace Go.Proofs.Ytkmlhchkidddmaa.Ss
open Go.RowKit Go.Deep BigM
set_option linter.unusedVariables false
set_option linter.unusedSimpArgs false
set_option maxHeartbeats 8000000
set_option maxRecDepth 100000
attribute [local go_sem ↓] Go.wp_at_zero Go.wp_at_succ
/-- a slice reads as these words. -/
def Rq (w : World) (q : Option Addr) (l : List Int) : Prop := 0 < l.length → ∃ b off, q = some ⟨b, off, none⟩ ∧ Rw w b off l
theorem Rq.on {w w' : World} {q : Option Addr} {l : List Int} (h : Rq w q l) (hb : Below w.heap.size w w') : Rq w' q l := fun h0 => by
  obtain ⟨b, off, e, r⟩ := h h0
  exact ⟨b, off, e, r.on hb⟩
theorem same_any (l : List Int) (n : Nat) (q1 q2 : Option Addr) (c1 c2 : Nat) (w : World) (hn : l.length = n) (hm : n ≤ 17592186044416) (h1 : Rq w q1 l) (h2 : Rq w q2 l) :
    Calls Try.prog 12 #[.slice q1 n c1, .slice q2 n c2] w fun e w' => e = .returned (.bool true) ∧ Below w.heap.size w w' := by
  have HL := hid hn
  have R1 := hid h1
  have R2 := hid h2
  have nn : ((n : Int) != (n : Int)) = false := by simp
  clear h1 h2 hn
  go_enter Try.func12, Try.ntmps12
  go_upto_region 4 with fail
  go_loopw [5] (fun iv wr => ∃ i, i ≤ n ∧ iv = .int .i64 (i : Nat) ∧ Hid (Below w.heap.size w wr)) (fun iv _ => n - (intOf iv).toNat)
  case atStart => exact ⟨0, Nat.zero_le _, rfl, Below.refl _ _⟩
  case round =>
    obtain ⟨i, hin, rfl, BW⟩ := hrel
    by_cases hlt : i < n
    · have hi : i < l.length := by rw [HL.out]; exact hlt
      obtain ⟨b, off, rfl, r1⟩ := R1.out (by omega)
      obtain ⟨b', off', rfl, r2⟩ := R2.out (by omega)
      have c1 := (r1.on BW.out).2 i hi
      have c2 := (r2.on BW.out).2 i hi
      obtain ⟨x, hx⟩ : ∃ x, gd l i = x := ⟨_, rfl⟩
      rw [hx] at c1 c2
      have xx : (x != x) = false := by simp
      have i0 : (0 : Int) ≤ (i : Int) := by omega
      have i1 : (i : Int) < (n : Int) := by omega
      have wi : IntKind.i64.wrap ((i : Int) + 1) = ((i + 1 : Nat) : Int) := by rw [IntKind.wrap_i64]; omega
      have HLT := hid hlt
      clear r1 r2 hx hi R1 R2
      go_upto_region 6 with fail
      go_quiet (fail)
      have BQ := hid (show Below w.heap.size w (wr.drewN nq) from below_drewN BW.out nq)
      obtain ⟨V, hV⟩ : ∃ V, wr.drewN nq = V := ⟨_, rfl⟩
      rw [hV] at BQ ⊢
      clear hV
      go_wp2
      go_roundw
      case rel => exact ⟨i + 1, HLT.out, by go_num, BQ⟩
      case measure => have := HLT.out; simp [intOf]; omega
    · obtain rfl : i = n := by omega
      go_wp2
      go_ret
      exact ⟨rfl, BW.out⟩
theorem refShare_none (A : Int) (q : Option Addr) (cap : Nat) (w : World) : Calls Try.prog 11 #[.int .u64 A, .slice q 0 cap] w fun e w' => e = .returned (.tuple #[.slice none 0 0, .int .i64 1]) ∧ w' = w := by
  go_enter Try.func11, Try.ntmps11
  go_wp2
  go_ret2
  exact ⟨rfl, rfl⟩
theorem refShare_over (A : Int) (ws : List Int) (b off cap : Nat) (w : World) (hws : ∀ x ∈ ws, Word x) (h0 : 0 < ws.length) (hn : ws.length ≤ 1048576) (hr : Rw w b off ws) (hS : ¬ sumL ws < 18446744073709551616) :
    Calls Try.prog 11 #[.int .u64 A, .slice (some ⟨b, off, none⟩) ws.length cap] w fun e w' => e = .returned (.tuple #[.slice none 0 0, .int .i64 10]) ∧ Below w.heap.size w w' := by
  have C := hid (refSum_any ws b off cap w hws hn hr)
  rw [show sumV ws = 0 from if_neg hS, show sumE ws = 10 from if_neg hS] at C
  obtain ⟨n, hnn⟩ : ∃ n, ws.length = n := ⟨_, rfl⟩
  rw [hnn] at C h0 ⊢
  have e0 : ((n : Int) == 0) = false := by simp; omega
  clear hws hn hr hS hnn
  go_enter Try.func11, Try.ntmps11
  go_wp2_with (go_at_call 18; with_reducible refine C.out.mono ?_; rintro e w1 ⟨rfl, h1⟩; have H1 := hid h1; clear h1)
  go_ret2
  exact ⟨rfl, H1.out⟩
theorem refShare_zero (A : Int) (ws : List Int) (b off cap : Nat) (w : World) (hws : ∀ x ∈ ws, Word x) (h0 : 0 < ws.length) (hn : ws.length ≤ 1048576) (hr : Rw w b off ws) (hS : sumL ws = 0) :
    Calls Try.prog 11 #[.int .u64 A, .slice (some ⟨b, off, none⟩) ws.length cap] w fun e w' => e = .returned (.tuple #[.slice none 0 0, .int .i64 11]) ∧ Below w.heap.size w w' := by
  have C := hid (refSum_any ws b off cap w hws hn hr)
  rw [show sumV ws = 0 from by unfold sumV; rw [hS]; rfl, show sumE ws = 0 from by unfold sumE; rw [hS]; rfl] at C
  obtain ⟨n, hnn⟩ : ∃ n, ws.length = n := ⟨_, rfl⟩
  rw [hnn] at C h0 ⊢
  have e0 : ((n : Int) == 0) = false := by simp; omega
  clear hws hn hr hS hnn
  go_enter Try.func11, Try.ntmps11
  go_wp2_with (go_at_call 18; with_reducible refine C.out.mono ?_; rintro e w1 ⟨rfl, h1⟩; have H1 := hid h1; clear h1)
  go_ret2
  exact ⟨rfl, H1.out⟩
/-- what Share says, whatever the weights. -/
def ShR (A : Int) (ws : List Int) (e : Int) (l : List Int) : Prop :=
  (0 < ws.length ∧ 0 < sumL ws ∧ sumL ws < 18446744073709551616 ∧ e = 0 ∧ ShAd A (sumL ws) ws l) ∨
  (0 < ws.length ∧ ¬ (0 < sumL ws ∧ sumL ws < 18446744073709551616) ∧ e = (if sumL ws = 0 then 11 else 10) ∧ l = []) ∨ (ws.length = 0 ∧ e = 1 ∧ l = [])
theorem ShR.uniq {A : Int} {ws : List Int} {e e' : Int} {l l' : List Int} (h : ShR A ws e l) (h' : ShR A ws e' l') : e = e' ∧ l = l' := by
  rcases h with ⟨a1, a2, a3, a4, a5⟩ | ⟨a1, a2, a3, a4⟩ | ⟨a1, a2, a3⟩ <;> rcases h' with ⟨b1, b2, b3, b4, b5⟩ | ⟨b1, b2, b3, b4⟩ | ⟨b1, b2, b3⟩
  · exact ⟨by omega, a5.uniq b5⟩
  · exact absurd ⟨a2, a3⟩ b2
  · omega
  · exact absurd ⟨b2, b3⟩ a2
  · exact ⟨by rw [a3, b3], by rw [a4, b4]⟩
  · omega
  · omega
  · omega
  · exact ⟨by omega, by rw [a3, b3]⟩
/-- a slice of one's own, full, with these words. -/
def Full (w : World) (H : Nat) (q : Option Addr) (l : List Int) : Prop := (q = none ∧ l = []) ∨ ∃ g, q = some ⟨g, 0, none⟩ ∧ H ≤ g ∧ Uw w g l.length l
theorem Full.rq {w : World} {H : Nat} {q : Option Addr} {l : List Int} (h : Full w H q l) : Rq w q l := fun h0 => by
  rcases h with ⟨_, rfl⟩ | ⟨g, rfl, _, u⟩
  · simp at h0
  · exact ⟨g, 0, rfl, u.rw⟩
theorem Full.on {w w' : World} {H : Nat} {q : Option Addr} {l : List Int} (h : Full w H q l) (hb : Below w.heap.size w w') : Full w' H q l := by
  rcases h with h | ⟨g, rfl, z, u⟩
  · exact .inl h
  · exact .inr ⟨g, rfl, z, u.on hb⟩
theorem share_all (A : Int) (ws : List Int) (n : Nat) (q : Option Addr) (cap : Nat) (w : World) (hA : Word A) (hws : ∀ x ∈ ws, Word x) (hl : ws.length = n) (hn : ws.length ≤ 17592186044416) (hr : Rq w q ws) :
    Calls Try.prog 14 #[.int .u64 A, .slice q n cap] w fun e w' => ∃ p er l, e = .returned (.tuple #[.slice p l.length l.length, .int .i64 er]) ∧ Full w' w.heap.size p l ∧ ShR A ws er l ∧ Below w.heap.size w w' := by
  subst hl
  by_cases h0 : 0 < ws.length
  · obtain ⟨b, off, rfl, hR⟩ := hr h0
    have hge := sumL_nonneg ws (fun x hx => (hws x hx).1)
    by_cases hS : sumL ws < 18446744073709551616
    · by_cases hz : sumL ws = 0
      · refine (share_zero A ws b off cap w hws h0 hn hR hz).mono ?_
        rintro e w' ⟨rfl, rfl⟩
        exact ⟨none, 11, [], rfl, .inl ⟨rfl, rfl⟩, .inr (.inl ⟨h0, by omega, by rw [if_pos hz], rfl⟩), Below.refl _ _⟩
      · refine (share_ad A _ ws b off cap w hA hws h0 hn hR rfl (by omega) hS).mono ?_
        rintro e w' ⟨gp, ps, rfl, z1, z2, z3, z4⟩
        have hlp : ps.length = ws.length := z1.len
        exact ⟨some ⟨gp, 0, none⟩, 0, ps, by rw [hlp], .inr ⟨gp, rfl, z3, by rw [hlp]; exact z1⟩, .inl ⟨h0, by omega, hS, rfl, z2⟩, z4⟩
    · refine (share_over A ws b off cap w hws h0 hn hR hS).mono ?_
      rintro e w' ⟨rfl, rfl⟩
      exact ⟨none, 10, [], rfl, .inl ⟨rfl, rfl⟩, .inr (.inl ⟨h0, by omega, by rw [if_neg (by omega)], rfl⟩), Below.refl _ _⟩
  · have e9 : ws.length = 0 := by omega
    rw [e9]
    refine (share_none A q cap w).mono ?_
    rintro e w' ⟨rfl, rfl⟩
    exact ⟨none, 1, [], rfl, .inl ⟨rfl, rfl⟩, .inr (.inr ⟨e9, rfl, rfl⟩), Below.refl _ _⟩
theorem refShare_all (A : Int) (ws : List Int) (n : Nat) (q : Option Addr) (cap : Nat) (w : World) (hA : Word A) (hws : ∀ x ∈ ws, Word x) (hl : ws.length = n) (hn : ws.length ≤ 1048576) (hr : Rq w q ws) (er : Int) (l : List Int) (hk : ShR A ws er l) :
    Calls Try.prog 11 #[.int .u64 A, .slice q n cap] w fun e w' => ∃ p c, e = .returned (.tuple #[.slice p l.length c, .int .i64 er]) ∧ (0 < l.length → ∃ g, p = some ⟨g, 0, none⟩ ∧ w.heap.size ≤ g ∧ Rw w' g 0 l) ∧ Below w.heap.size w w' := by
  subst hl
  by_cases h0 : 0 < ws.length
  · obtain ⟨b, off, rfl, hR⟩ := hr h0
    have hge := sumL_nonneg ws (fun x hx => (hws x hx).1)
    rcases hk with ⟨a1, a2, a3, rfl, a5⟩ | ⟨a1, a2, a3, rfl⟩ | ⟨a1, _⟩
    · obtain ⟨pl, k, ho, _⟩ := id a5
      refine (refShare_ok A _ ws b off cap w hA hws h0 hn hR rfl a2 a3 pl ho).mono ?_
      rintro e w' ⟨v, ps, rfl, z1, z2, z3⟩
      obtain rfl : ps = l := z2.uniq a5
      obtain ⟨p, c, rfl⟩ := own_form z1
      have hlp : ps.length = ws.length := by have := z1.1; rw [ivw_len] at this; omega
      rw [← hlp] at z1
      exact ⟨p, c, by rw [hlp], fun h9 => by
        obtain ⟨g, rfl, z9, r⟩ := own_rw rfl h9 z1
        exact ⟨g, rfl, z9, r⟩, z3⟩
    · by_cases hz : sumL ws = 0
      · rw [if_pos hz] at a3
        subst a3
        refine (refShare_zero A ws b off cap w hws h0 hn hR hz).mono ?_
        rintro e w' ⟨rfl, h9⟩
        exact ⟨none, 0, rfl, fun h => by simp at h, h9⟩
      · rw [if_neg hz] at a3
        subst a3
        refine (refShare_over A ws b off cap w hws h0 hn hR (by omega)).mono ?_
        rintro e w' ⟨rfl, h9⟩
        exact ⟨none, 0, rfl, fun h => by simp at h, h9⟩
    · omega
  · have e9 : ws.length = 0 := by omega
    rcases hk with ⟨a1, _⟩ | ⟨a1, _⟩ | ⟨a1, rfl, rfl⟩
    · omega
    · omega
    · rw [e9]
      refine (refShare_none A q cap w).mono ?_
      rintro e w' ⟨rfl, rfl⟩
      exact ⟨none, 0, rfl, fun h => by simp at h, Below.refl _ _⟩
end Go.Proofs.Ytkmlhchkidddmaa.Ss
