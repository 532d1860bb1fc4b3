/-
  Bytes by frames, plain: each 64, and what is over; what is told of them.
-/
import Derived.Test.YtniofmaefonkdaaDoorUnB
namespace Go.Proofs.YtniofmaefonkdaaDoor
open Go.RowKit Go.Deep Crc
set_option linter.unusedVariables false
set_option linter.unusedSimpArgs false
def chs : List Nat → List (List Nat)
  | [] => []
  | x :: xs => (x :: xs).take 64 :: chs ((x :: xs).drop 64)
  termination_by l => l.length
  decreasing_by simp; omega
theorem chs_nil : chs [] = [] := by rw [chs]
theorem chs_ne {xs : List Nat} (h : xs ≠ []) : chs xs = xs.take 64 :: chs (xs.drop 64) := by
  cases xs with
  | nil => exact absurd rfl h
  | cons x xs => rw [chs]
theorem chs_append (n : Nat) : ∀ a b : List Nat, a.length = 64 * n → chs (a ++ b) = chs a ++ chs b := by
  induction n with
  | zero =>
    intro a b h
    have : a = [] := List.eq_nil_of_length_eq_zero (by omega)
    subst this
    simp [chs_nil]
  | succ n ih =>
    intro a b h
    have h1 : a ≠ [] := by rintro rfl; simp at h
    have h2 : a ++ b ≠ [] := by simp [h1]
    rw [chs_ne h2, chs_ne h1, List.take_append_of_le_length (by omega), List.drop_append_of_le_length (by omega), ih (a.drop 64) b (by simp; omega)]
    rfl
theorem chs_len (n : Nat) : ∀ a : List Nat, a.length = 64 * n → (chs a).length = n := by
  induction n with
  | zero =>
    intro a h
    have : a = [] := List.eq_nil_of_length_eq_zero (by omega)
    subst this
    simp [chs_nil]
  | succ n ih =>
    intro a h
    have h1 : a ≠ [] := by rintro rfl; simp at h
    rw [chs_ne h1, List.length_cons, ih (a.drop 64) (by simp; omega)]
theorem chs_one {a : List Nat} (h : a.length = 64) : chs a = [a] := by
  have h1 : a ≠ [] := by rintro rfl; simp at h
  rw [chs_ne h1, List.take_of_length_le (by omega), List.drop_eq_nil_of_le (by omega), chs_nil]
theorem chs_bound : ∀ a : List Nat, (chs a).length ≤ a.length := by
  intro a
  induction h : a.length using Nat.strongRecOn generalizing a with
  | _ n ih =>
    by_cases h1 : a = []
    · subst h1; simp [chs_nil]
    · have h2 : 0 < a.length := List.length_pos_iff.2 h1
      have := ih (a.drop 64).length (by simp; omega) (a.drop 64) rfl
      rw [chs_ne h1, List.length_cons]
      simp at this
      omega
/-- what is told of frames, one by one. -/
def Tl : List (List Nat) → List (Value × Int) → Prop
  | [], [] => True
  | c :: cs, v :: vs => UnpR c v.1 v.2 ∧ Tl cs vs
  | _, _ => False
theorem Tl.len : ∀ {cs : List (List Nat)} {vs : List (Value × Int)}, Tl cs vs → cs.length = vs.length
  | [], [], _ => rfl
  | c :: cs, v :: vs, h => by simp [Tl.len h.2]
theorem Tl.append : ∀ {cs : List (List Nat)} {vs : List (Value × Int)} {ds : List (List Nat)} {us : List (Value × Int)}, Tl cs vs → Tl ds us → Tl (cs ++ ds) (vs ++ us)
  | [], [], _, _, _, k => k
  | c :: cs, v :: vs, _, _, h, k => ⟨h.1, Tl.append h.2 k⟩
theorem Tl.one : ∀ {cs : List (List Nat)} {vs us : List (Value × Int)}, Tl cs vs → Tl cs us → vs = us
  | [], [], [], _, _ => rfl
  | c :: cs, v :: vs, u :: us, h, k => by
    obtain ⟨e1, e2⟩ := h.1.one k.1
    rw [Tl.one h.2 k.2, show v = u from Prod.ext e1 e2]
end Go.Proofs.YtniofmaefonkdaaDoor
