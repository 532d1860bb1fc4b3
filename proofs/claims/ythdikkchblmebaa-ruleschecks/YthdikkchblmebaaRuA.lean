/-
  The rules' small calls; where an order stands in a list.
-/
import Derived.Test.YthdikkchblmebaaRuM
namespace Go.Proofs.Ythdikkchblmebaa
open Go.RowKit Go.Deep
set_option linter.unusedVariables false
set_option linter.unusedSimpArgs false
set_option maxHeartbeats 1000000
set_option maxRecDepth 100000
/-- a price is better for a side. -/
def btt (s p q : Int) : Bool := if s = 1 then decide (q < p) else decide (p < q)
theorem better_any (s p q : Int) (w : World) : Calls Try.prog 34 #[.int .i64 s, .int .i64 p, .int .i64 q] w fun e w' => e = .returned (.bool (btt s p q)) ∧ w' = w := by
  by_cases h : s = 1
  · subst h
    go_enter Try.func34, Try.ntmps34
    go_wp2
    go_ret
    exact ⟨by simp [btt], rfl⟩
  · have h1 : (s == 1) = false := by simpa using h
    go_enter Try.func34, Try.ntmps34
    go_wp2
    go_ret
    exact ⟨by simp [btt, h], rfl⟩
/-- the other side. -/
def oth (s : Int) : Int := if s = 1 then 2 else 1
def rst (k : Int) : Bool := k == 1 || k == 5
theorem rests_any (k : Int) (w : World) : Calls Try.prog 37 #[.int .i64 k] w fun e w' => e = .returned (.bool (rst k)) ∧ w' = w := by
  by_cases h : k = 1
  · subst h
    go_enter Try.func37, Try.ntmps37
    go_wp2
    go_ret
    exact ⟨by simp [rst], rfl⟩
  · have h1 : (k == 1) = false := by simpa using h
    go_enter Try.func37, Try.ntmps37
    go_wp2
    go_ret
    exact ⟨by simp [rst, h1], rfl⟩
/-- what is shown and what is held back. -/
def shw (pk q : Int) : Int × Int := if pk = 0 ∨ q < pk then (q, 0) else (pk, q - pk)
/-- where the order of an ID stands, or -1. -/
def fnd (id : Int) : LO → Int
  | [] => -1
  | x :: l => if x.2.id = id then 0 else if fnd id l = -1 then -1 else fnd id l + 1
theorem fnd_ge (id : Int) : ∀ l : LO, -1 ≤ fnd id l ∧ fnd id l < l.length := by
  intro l
  induction l with
  | nil => simp [fnd]
  | cons x l ih => unfold fnd; simp only [List.length_cons]; split; omega; split <;> omega
theorem fnd_none {id : Int} : ∀ {l : LO}, (∀ x ∈ l, x.2.id ≠ id) → fnd id l = -1
  | [], _ => rfl
  | x :: l, h => by
    unfold fnd
    rw [if_neg (h x (by simp)), if_pos (fnd_none (fun y hy => h y (by simp [hy])))]
theorem fnd_at {id : Int} : ∀ {l : LO} {i : Nat} (hi : i < l.length), (∀ j (hj : j < i), (l[j]).2.id ≠ id) → (l[i]).2.id = id → fnd id l = i
  | x :: l, 0, hi, _, h => by unfold fnd; rw [if_pos (by simpa using h)]; rfl
  | x :: l, i + 1, hi, ha, h => by
    unfold fnd
    have e := fnd_at (l := l) (i := i) (by simpa using hi) (fun j hj => by have := ha (j + 1) (by omega); simpa using this) (by simpa using h)
    rw [if_neg (by have := ha 0 (by omega); simpa using this), e, if_neg (by omega)]
    omega
end Go.Proofs.Ythdikkchblmebaa
