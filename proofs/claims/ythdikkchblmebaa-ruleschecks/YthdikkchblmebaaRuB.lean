/-
  Behind whom an order comes.
-/
import Derived.Test.YthdikkchblmebaaRuA
namespace Go.Proofs.Ythdikkchblmebaa
open Go.RowKit Go.Deep
set_option linter.unusedVariables false
set_option linter.unusedSimpArgs false
set_option maxHeartbeats 1000000
set_option maxRecDepth 100000
/-- how many stand at a price or ahead of it. -/
def bhd (s p : Int) (l : LO) : Nat := (l.takeWhile fun x => !btt s p x.2.pr).length
theorem bhd_le (s p : Int) (l : LO) : bhd s p l ≤ l.length := by
  unfold bhd
  have := (List.takeWhile_prefix (fun x : Nat × Or => !btt s p x.2.pr) (l := l)).length_le
  exact this
theorem bhd_eq {s p : Int} : ∀ {l : LO} {i : Nat}, i ≤ l.length → (∀ k (hk : k < l.length), k < i → btt s p (l[k]).2.pr = false) → (∀ (hk : i < l.length), btt s p (l[i]).2.pr = true) → bhd s p l = i
  | [], i, hi, _, _ => by simp at hi; subst hi; rfl
  | x :: l, 0, hi, _, h2 => by
    have := h2 (by simp)
    simp only [List.getElem_cons_zero] at this
    simp [bhd, List.takeWhile_cons, this]
  | x :: l, i + 1, hi, h1, h2 => by
    have a := h1 0 (by simp) (by omega)
    simp only [List.getElem_cons_zero] at a
    have e := bhd_eq (s := s) (p := p) (l := l) (i := i) (by simpa using hi) (fun k hk hki => by have := h1 (k + 1) (by simpa using hk) (by omega); simpa using this) (fun hk => by have := h2 (by simpa using hk); simpa using this)
    unfold bhd at e ⊢
    simp [List.takeWhile_cons, a, e]
/-- a side stands in its order. -/
def Srt (s : Int) (l : LO) : Prop := ∀ i j (hi : i < l.length) (hj : j < l.length), i < j → btt s (l[j]).2.pr (l[i]).2.pr = false
theorem Srt.up {s : Int} {l : LO} (h : Srt s l) (p : Int) {i j : Nat} (hi : i < l.length) (hj : j < l.length) (hij : i ≤ j) (ht : btt s p (l[i]).2.pr = true) : btt s p (l[j]).2.pr = true := by
  by_cases e : i = j
  · subst e; exact ht
  · have a := h i j hi hj (by omega)
    unfold btt at *
    split at ht <;> simp_all <;> omega
theorem shr1 (n : Nat) (h : n < 9223372036854775808) : IntKind.u64.wrap ((n : Int)) = n := by rw [IntKind.wrap_u64]; omega
end Go.Proofs.Ythdikkchblmebaa
