/-
  TexM
-/

namespace Go.Proofs.Ytegdhffejmbakaa.TexM
set_option linter.unusedVariables false
def p10 (k : Nat) : Int := 10 ^ k
theorem p10_pos (k : Nat) : 0 < p10 k := Int.pow_pos (by decide)
theorem p10_succ (k : Nat) : p10 (k + 1) = 10 * p10 k := by unfold p10; rw [Int.pow_succ, Int.mul_comm]
theorem p10_add (a b : Nat) : p10 (a + b) = p10 a * p10 b := Int.pow_add _ _ _
theorem p10_le (a b : Nat) (h : a ≤ b) : p10 a ≤ p10 b := by
  obtain ⟨c, rfl⟩ := Nat.le.dest h
  rw [p10_add]
  have := Int.mul_le_mul_of_nonneg_left (show 1 ≤ p10 c by have := p10_pos c; omega) (Int.le_of_lt (p10_pos a))
  omega
/-- the lowest k digits and the point, the highest first. -/
def suf (n : Int) : Nat → List Int
  | 0 => []
  | k + 1 => (48 + n / p10 k % 10) :: (if k = 2 then 46 :: suf n k else suf n k)
theorem suf_len (n : Int) (k : Nat) : (suf n k).length = if k < 3 then k else k + 1 := by
  induction k with
  | zero => rfl
  | succ k ih =>
    simp only [suf]
    by_cases h : k = 2
    · subst h; rw [if_pos rfl]; simp only [List.length_cons, ih]; rfl
    · rw [if_neg h, List.length_cons, ih]
      by_cases h2 : k < 3
      · rw [if_pos h2, if_pos (by omega)]
      · rw [if_neg h2, if_neg (by omega)]
theorem div_step (n : Int) (k : Nat) : n / p10 k / 10 = n / p10 (k + 1) := by
  rw [p10_succ, Int.mul_comm, Int.ediv_ediv_of_nonneg (Int.le_of_lt (p10_pos k))]
/-- how many digits there are. -/
def Fin10 (n : Int) (K : Nat) : Prop := 3 ≤ K ∧ n / p10 K = 0 ∧ (K = 3 ∨ n / p10 (K - 1) ≠ 0)
theorem div_zero_iff (n : Int) (hn : 0 ≤ n) (k : Nat) : n / p10 k = 0 ↔ n < p10 k := by
  constructor
  · intro h
    by_cases hlt : n < p10 k
    · exact hlt
    · have : 1 ≤ n / p10 k := by rw [Int.le_ediv_iff_mul_le (p10_pos k)]; omega
      omega
  · intro h; exact Int.ediv_eq_zero_of_lt hn h
theorem fin10_unique (n : Int) (hn : 0 ≤ n) (K J : Nat) (hK : Fin10 n K) (hJ : Fin10 n J) : K = J := by
  obtain ⟨k1, k2, k3⟩ := hK
  obtain ⟨j1, j2, j3⟩ := hJ
  rw [div_zero_iff n hn] at k2 j2
  have key : ∀ A B : Nat, n < p10 A → (B = 3 ∨ n / p10 (B - 1) ≠ 0) → 3 ≤ A → B ≤ A := by
    intro A B h1 h2 h3
    rcases h2 with h2 | h2
    · omega
    · by_cases h : B ≤ A
      · exact h
      · have h4 := p10_le A (B - 1) (by omega)
        exact absurd ((div_zero_iff n hn (B - 1)).2 (by omega)) h2
  have a := key K J k2 j3 k1
  have b := key J K j2 k3 j1
  omega
/-- an amount's text. -/
def IsText (m : Int) (xs : List Int) : Prop := ∃ K, Fin10 (if m < 0 then -m else m) K ∧ xs = (if m < 0 then [45] else []) ++ suf (if m < 0 then -m else m) K
theorem isText_unique (m : Int) (xs ys : List Int) (hx : IsText m xs) (hy : IsText m ys) : xs = ys := by
  obtain ⟨K, h1, rfl⟩ := hx
  obtain ⟨J, h2, rfl⟩ := hy
  have := fin10_unique _ (by split <;> omega) K J h1 h2
  rw [this]
end Go.Proofs.Ytegdhffejmbakaa.TexM
