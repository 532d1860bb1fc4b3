/-
  RfE
-/
import Derived.Test.YtlhbgaiiehljpaaGreatGj
import Derived.Deep.RegionHeld3
import Derived.ArgAppend
namespace Go.Proofs.YtlhbgaiiehljpaaGreat.Ss
open Go.RowKit Go.Deep BigM
set_option linter.unusedVariables false
set_option linter.unusedSimpArgs false
set_option maxHeartbeats 8000000
set_option maxRecDepth 100000
attribute [local go_sem ↓] Go.wp_at_zero Go.wp_at_succ
/-- a slice reads as these words. -/
def Rq (w : World) (q : Option Addr) (l : List Int) : Prop := 0 < l.length → ∃ b off, q = some ⟨b, off, none⟩ ∧ Rw w b off l
theorem Rq.on {w w' : World} {q : Option Addr} {l : List Int} (h : Rq w q l) (hb : Below w.heap.size w w') : Rq w' q l := fun h0 => by
  obtain ⟨b, off, e, r⟩ := h h0
  exact ⟨b, off, e, r.on hb⟩
/-- what Share says, whatever the weights. -/
def ShR (A : Int) (ws : List Int) (e : Int) (l : List Int) : Prop :=
  (0 < ws.length ∧ 0 < sumL ws ∧ sumL ws < 18446744073709551616 ∧ e = 0 ∧ ShAd A (sumL ws) ws l) ∨
  (0 < ws.length ∧ ¬ (0 < sumL ws ∧ sumL ws < 18446744073709551616) ∧ e = (if sumL ws = 0 then 11 else 10) ∧ l = []) ∨ (ws.length = 0 ∧ e = 1 ∧ l = [])
theorem ShR.uniq {A : Int} {ws : List Int} {e e' : Int} {l l' : List Int} (h : ShR A ws e l) (h' : ShR A ws e' l') : e = e' ∧ l = l' := by
  rcases h with ⟨a1, a2, a3, a4, a5⟩ | ⟨a1, a2, a3, a4⟩ | ⟨a1, a2, a3⟩ <;> rcases h' with ⟨b1, b2, b3, b4, b5⟩ | ⟨b1, b2, b3, b4⟩ | ⟨b1, b2, b3⟩
  · exact ⟨by omega, a5.uniq b5⟩
  · exact absurd ⟨a2, a3⟩ b2
  · omega
  · exact absurd ⟨b2, b3⟩ a2
  · exact ⟨by rw [a3, b3], by rw [a4, b4]⟩
  · omega
  · omega
  · omega
  · exact ⟨by omega, by rw [a3, b3]⟩
/-- a slice of one's own, full, with these words. -/
def Full (w : World) (H : Nat) (q : Option Addr) (l : List Int) : Prop := (q = none ∧ l = []) ∨ ∃ g, q = some ⟨g, 0, none⟩ ∧ H ≤ g ∧ Uw w g l.length l
theorem Full.on {w w' : World} {H : Nat} {q : Option Addr} {l : List Int} (h : Full w H q l) (hb : Below w.heap.size w w') : Full w' H q l := by
  rcases h with h | ⟨g, rfl, z, u⟩
  · exact .inl h
  · exact .inr ⟨g, rfl, z, u.on hb⟩
theorem share_all (A : Int) (ws : List Int) (n : Nat) (q : Option Addr) (cap : Nat) (w : World) (hA : Word A) (hws : ∀ x ∈ ws, Word x) (hl : ws.length = n) (hn : ws.length ≤ 17592186044416) (hr : Rq w q ws) :
    Calls Tryz.prog 61 #[.int .u64 A, .slice q n cap] w fun e w' => ∃ p er l, e = .returned (.tuple #[.slice p l.length l.length, .int .i64 er]) ∧ Full w' w.heap.size p l ∧ ShR A ws er l ∧ Below w.heap.size w w' := by
  subst hl
  by_cases h0 : 0 < ws.length
  · obtain ⟨b, off, rfl, hR⟩ := hr h0
    have hge := sumL_nonneg ws (fun x hx => (hws x hx).1)
    by_cases hS : sumL ws < 18446744073709551616
    · by_cases hz : sumL ws = 0
      · refine (share_zero A ws b off cap w hws h0 hn hR hz).mono ?_
        rintro e w' ⟨rfl, rfl⟩
        exact ⟨none, 11, [], rfl, .inl ⟨rfl, rfl⟩, .inr (.inl ⟨h0, by omega, by rw [if_pos hz], rfl⟩), Below.refl _ _⟩
      · refine (share_ad A _ ws b off cap w hA hws h0 hn hR rfl (by omega) hS).mono ?_
        rintro e w' ⟨gp, ps, rfl, z1, z2, z3, z4⟩
        have hlp : ps.length = ws.length := z1.len
        exact ⟨some ⟨gp, 0, none⟩, 0, ps, by rw [hlp], .inr ⟨gp, rfl, z3, by rw [hlp]; exact z1⟩, .inl ⟨h0, by omega, hS, rfl, z2⟩, z4⟩
    · refine (share_over A ws b off cap w hws h0 hn hR hS).mono ?_
      rintro e w' ⟨rfl, rfl⟩
      exact ⟨none, 10, [], rfl, .inl ⟨rfl, rfl⟩, .inr (.inl ⟨h0, by omega, by rw [if_neg (by omega)], rfl⟩), Below.refl _ _⟩
  · have e9 : ws.length = 0 := by omega
    rw [e9]
    refine (share_none A q cap w).mono ?_
    rintro e w' ⟨rfl, rfl⟩
    exact ⟨none, 1, [], rfl, .inl ⟨rfl, rfl⟩, .inr (.inr ⟨e9, rfl, rfl⟩), Below.refl _ _⟩
end Go.Proofs.YtlhbgaiiehljpaaGreat.Ss
namespace Go.Proofs.YtlhbgaiiehljpaaGreat.Ss
open Go.RowKit Go.Deep BigM
set_option linter.unusedVariables false
set_option linter.unusedSimpArgs false
set_option maxHeartbeats 8000000
set_option maxRecDepth 100000
attribute [local go_sem ↓] Go.wp_at_zero Go.wp_at_succ
theorem ShR.len {A : Int} {ws : List Int} {e : Int} {l : List Int} (h : ShR A ws e l) : l.length ≤ ws.length := by
  rcases h with ⟨a1, a2, a3, a4, pl, k, _, a5, _⟩ | ⟨a1, a2, a3, rfl⟩ | ⟨a1, a2, rfl⟩
  · rw [a5.len, List.length_map]; exact Nat.le_refl _
  · simp
  · simp
end Go.Proofs.YtlhbgaiiehljpaaGreat.Ss
