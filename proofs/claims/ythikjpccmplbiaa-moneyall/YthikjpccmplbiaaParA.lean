/-
  Reading an amount's text: plain mathematics.
-/
import Derived.Test.YthikjpccmplbiaaTexM
import Derived.Laws.BytesArg
namespace Go.Proofs.Ythikjpccmplbiaa.ParM
open TexM
set_option linter.unusedVariables false

def top : Int := 170141183460469231731687303715884105727
/-- digits and points are read, as long as it fits. -/
def rd : List Int → Int → Option Int
  | [], v => some v
  | x :: r, v => if x = 46 then rd r v else if 48 ≤ x ∧ x ≤ 57 ∧ v * 10 + (x - 48) ≤ 170141183460469231731687303715884105727 then rd r (v * 10 + (x - 48)) else none
theorem rd_snoc (l : List Int) (x v : Int) : rd (l ++ [x]) v = (rd l v).bind (fun u => rd [x] u) := by
  induction l generalizing v with
  | nil => simp [rd]
  | cons y r ih =>
    simp only [List.cons_append, rd]
    split
    · exact ih v
    · split
      · exact ih _
      · rfl
theorem rd_nonneg (l : List Int) (v : Int) (h0 : 0 ≤ v) (h1 : v ≤ 170141183460469231731687303715884105727) : ∀ u, rd l v = some u → 0 ≤ u ∧ u ≤ 170141183460469231731687303715884105727 := by
  induction l generalizing v with
  | nil => intro u hu; simp [rd] at hu; omega
  | cons y r ih =>
    intro u hu
    simp only [rd] at hu
    split at hu
    · exact ih v h0 h1 u hu
    · split at hu
      · exact ih _ (by omega) (by omega) u hu
      · simp at hu
/-- the digits of a text are read as what they say. -/
theorem rd_suf (n : Int) (hn : 0 ≤ n) (h1 : n ≤ 170141183460469231731687303715884105727) (k : Nat) : rd (suf n k) (n / p10 k) = some n := by
  induction k with
  | zero => simp [suf, rd, p10]
  | succ k ih =>
    have hm := mod_step n hn k
    have hle : n / p10 k ≤ n := Int.ediv_le_self _ hn
    have h0 : ¬ (48 + n / p10 k % 10 = 46) := by omega
    have hmm := Int.emod_nonneg (n / p10 k) (show (10 : Int) ≠ 0 by decide)
    have hmm2 := Int.emod_lt_of_pos (n / p10 k) (show (0 : Int) < 10 by decide)
    simp only [suf, rd]
    rw [if_neg h0, show 48 + n / p10 k % 10 - 48 = n / p10 k % 10 from by omega, hm, if_pos ⟨by omega, by omega, by omega⟩]
    by_cases h : k = 2
    · rw [if_pos h]; simp only [rd, if_true]; exact ih
    · rw [if_neg h]; exact ih
theorem suf_head (n : Int) (hn : 0 ≤ n) (k : Nat) (hk : 0 < k) : ∃ d r, suf n k = d :: r ∧ 48 ≤ d ∧ d ≤ 57 := by
  cases k with
  | zero => omega
  | succ k =>
    refine ⟨48 + n / p10 k % 10, _, rfl, ?_, ?_⟩ <;> omega
theorem text_len (n : Int) (h0 : 0 ≤ n) (h1 : n ≤ 170141183460469231731687303715884105727) (K : Nat) (h : Fin10 n K) : (suf n K).length ≤ 40 := by
  rw [suf_len]
  obtain ⟨a, b, c⟩ := h
  rw [if_neg (by omega)]
  rcases c with c | c
  · omega
  · have : K - 1 ≤ 38 := by
      by_cases hk : K - 1 ≤ 38
      · exact hk
      · have h2 := p10_le 39 (K - 1) (by omega)
        have p39 : p10 39 = 1000000000000000000000000000000000000000 := by decide
        rw [p39] at h2
        exact absurd ((div_zero_iff n h0 (K - 1)).2 (by omega)) c
    omega
/-- the bytes as numbers. -/
def nums (s : ByteArray) : List Int := s.data.toList.map (fun b => (b.toNat : Int))
theorem nums_len (s : ByteArray) : (nums s).length = s.size := by
  unfold nums
  rw [List.length_map, Array.length_toList]
  rfl
theorem strOfNums_nums (s : ByteArray) : strOfNums (nums s) = s := by
  cases s with
  | mk d => simp [strOfNums, nums, List.map_map, Function.comp_def]
theorem nums_strOfNums (xs : List Int) (h : ∀ x, x ∈ xs → 0 ≤ x ∧ x < 256) : nums (strOfNums xs) = xs := by
  unfold nums
  rw [strOfNums_data, List.map_map]
  have : ∀ x, x ∈ xs → ((fun b : UInt8 => (b.toNat : Int)) ∘ fun n : Int => UInt8.ofNat n.toNat) x = x := by
    intro x hx
    have := h x hx
    simp [Function.comp]
    omega
  rw [List.map_congr_left this]; simp
theorem suf_bytes (n : Int) (k : Nat) : ∀ x, x ∈ suf n k → 0 ≤ x ∧ x < 256 := by
  induction k with
  | zero => intro x hx; simp [suf] at hx
  | succ k ih =>
    intro x hx
    simp only [suf, List.mem_cons] at hx
    rcases hx with rfl | hx
    · omega
    · split at hx
      · simp only [List.mem_cons] at hx
        rcases hx with rfl | hx
        · omega
        · exact ih x hx
      · exact ih x hx
theorem text_bytes (m : Int) (xs : List Int) (h : IsText m xs) : ∀ x, x ∈ xs → 0 ≤ x ∧ x < 256 := by
  obtain ⟨K, h1, rfl⟩ := h
  intro x hx
  rw [List.mem_append] at hx
  rcases hx with hx | hx
  · split at hx
    · simp at hx; omega
    · simp at hx
  · exact suf_bytes _ _ x hx
end Go.Proofs.Ythikjpccmplbiaa.ParM
