/-
  Whole numbers as lists of digits to the base 2^32, the lowest first: plain mathematics.
-/
namespace Go.Proofs.Ythikjpccmplbiaa.BigM

def val : List Int → Int
  | [] => 0
  | d :: r => d + 4294967296 * val r
def Dig (l : List Int) : Prop := ∀ d, d ∈ l → 0 ≤ d ∧ d < 4294967296
/-- digit k, 0 beyond the list. -/
def at0 (l : List Int) (k : Nat) : Int := l[k]?.getD 0
def Trm (l : List Int) : Prop := 0 < l.length → at0 l (l.length - 1) ≠ 0
/-- the powers of the base. -/
def pw (k : Nat) : Int := 4294967296 ^ k

theorem pw_zero : pw 0 = 1 := rfl
theorem pw_succ (k : Nat) : pw (k + 1) = 4294967296 * pw k := by unfold pw; rw [Int.pow_succ, Int.mul_comm]
theorem pw_pos (k : Nat) : 0 < pw k := Int.pow_pos (by decide)
theorem pw_add (a b : Nat) : pw (a + b) = pw a * pw b := by unfold pw; exact Int.pow_add _ _ _
theorem pw_le (a b : Nat) (h : a ≤ b) : pw a ≤ pw b := by
  obtain ⟨c, rfl⟩ := Nat.le.dest h
  rw [pw_add]
  have h1 := pw_pos a
  have h2 := pw_pos c
  have := Int.mul_le_mul_of_nonneg_left (show 1 ≤ pw c by omega) (Int.le_of_lt h1)
  omega

theorem at0_dig (l : List Int) (h : Dig l) (k : Nat) : 0 ≤ at0 l k ∧ at0 l k < 4294967296 := by
  unfold at0
  by_cases hk : k < l.length
  · rw [List.getElem?_eq_getElem hk]; exact h _ (List.getElem_mem hk)
  · rw [List.getElem?_eq_none (by omega)]; exact ⟨by simp, by simp⟩

theorem val_append (a b : List Int) : val (a ++ b) = val a + pw a.length * val b := by
  induction a with
  | nil => simp [val, pw_zero]
  | cons x r ih =>
    simp only [List.cons_append, val, List.length_cons, pw_succ, ih]
    rw [Int.mul_add, Int.mul_assoc]; omega
theorem val_snoc (a : List Int) (x : Int) : val (a ++ [x]) = val a + pw a.length * x := by
  rw [val_append]; simp [val]
theorem val_nonneg (l : List Int) (h : Dig l) : 0 ≤ val l := by
  induction l with
  | nil => simp [val]
  | cons x r ih =>
    have h1 := h x (by simp)
    have h2 := ih (fun d hd => h d (by simp [hd]))
    simp only [val]; omega
theorem val_lt (l : List Int) (h : Dig l) : val l < pw l.length := by
  induction l with
  | nil => simp [val, pw_zero]
  | cons x r ih =>
    have h1 := h x (by simp)
    have h2 := ih (fun d hd => h d (by simp [hd]))
    simp only [val, List.length_cons, pw_succ]; omega
theorem Dig.take {l : List Int} (h : Dig l) (k : Nat) : Dig (l.take k) := fun d hd => h d (List.mem_of_mem_take hd)
theorem Dig.snoc {l : List Int} (h : Dig l) {x : Int} (h0 : 0 ≤ x) (h1 : x < 4294967296) : Dig (l ++ [x]) := by
  intro d hd
  simp only [List.mem_append, List.mem_singleton] at hd
  rcases hd with hd | rfl
  · exact h d hd
  · exact ⟨h0, h1⟩
theorem dig_nil : Dig [] := fun d hd => by simp at hd
theorem val_take_succ (l : List Int) (k : Nat) (hk : k < l.length) : val (l.take (k + 1)) = val (l.take k) + pw k * at0 l k := by
  have e : l.take (k + 1) = l.take k ++ [at0 l k] := by rw [List.take_succ_eq_append_getElem hk]; simp [at0, hk]
  rw [e, val_snoc]
  have : (l.take k).length = k := by simp; omega
  rw [this]
theorem val_take_all (l : List Int) (k : Nat) (hk : l.length ≤ k) : val (l.take k) = val l := by rw [List.take_of_length_le hk]
/-- one more place, in or beyond the list. -/
theorem val_take_step (l : List Int) (k : Nat) : val (l.take (k + 1)) = val (l.take k) + pw k * at0 l k := by
  by_cases hk : k < l.length
  · exact val_take_succ l k hk
  · rw [val_take_all l k (by omega), val_take_all l (k + 1) (by omega)]
    have : at0 l k = 0 := by unfold at0; rw [List.getElem?_eq_none (by omega)]; rfl
    rw [this]; omega

theorem val_ge (l : List Int) (h : Dig l) (ht : Trm l) (hl : 0 < l.length) : pw (l.length - 1) ≤ val l := by
  have h1 := val_take_succ l (l.length - 1) (by omega)
  rw [show l.length - 1 + 1 = l.length from by omega, List.take_length] at h1
  have h2 := val_nonneg _ (h.take (l.length - 1))
  have h3 := ht hl
  have h4 := at0_dig l h (l.length - 1)
  have h5 : pw (l.length - 1) * 1 ≤ pw (l.length - 1) * at0 l (l.length - 1) := Int.mul_le_mul_of_nonneg_left (by omega) (Int.le_of_lt (pw_pos _))
  omega
theorem len_le (l : List Int) (h : Dig l) (ht : Trm l) (k : Nat) (hv : val l < pw k) : l.length ≤ k := by
  by_cases hl : l.length ≤ k
  · exact hl
  · have h1 := val_ge l h ht (by omega)
    have h2 := pw_le k (l.length - 1) (by omega)
    omega
theorem len_pos (l : List Int) (h : Dig l) (ht : Trm l) : 0 < l.length ↔ 0 < val l := by
  constructor
  · intro hl
    have h1 := val_ge l h ht hl
    have := pw_pos (l.length - 1)
    omega
  · intro hv
    cases l with
    | nil => simp [val] at hv
    | cons x r => simp
theorem val_mod2 (l : List Int) : val l % 2 = at0 l 0 % 2 := by
  cases l with
  | nil => simp [val, at0]
  | cons x r => simp only [val, at0, List.getElem?_cons_zero, Option.getD_some]; omega
/-- longer is greater. -/
theorem lt_of_len (a b : List Int) (ha : Dig a) (hb : Dig b) (hbt : Trm b) (h : a.length < b.length) : val a < val b := by
  have h1 := val_lt a ha
  have h2 := val_ge b hb hbt (by omega)
  have h3 := pw_le a.length (b.length - 1) (by omega)
  omega
/-- the first place from above that parts decides. -/
theorem lt_of_place (a b : List Int) (ha : Dig a) (hb : Dig b) (k : Nat) (hs : ∀ j, k < j → at0 a j = at0 b j) (hk : at0 a k < at0 b k) : val a < val b := by
  have key : ∀ n, k < n → val (a.take n) < val (b.take n) := by
    intro n hn
    induction n with
    | zero => omega
    | succ m ih =>
      rw [val_take_step a m, val_take_step b m]
      by_cases hm : m = k
      · subst hm
        have h1 := val_lt _ (ha.take m)
        have h2 := val_nonneg _ (hb.take m)
        have h3 : pw (a.take m).length ≤ pw m := pw_le _ _ (by simp; omega)
        have h4 : pw m * (at0 a m + 1) ≤ pw m * at0 b m := Int.mul_le_mul_of_nonneg_left (by omega) (Int.le_of_lt (pw_pos _))
        rw [Int.mul_add] at h4
        omega
      · rw [hs m (by omega)]
        have := ih (by omega)
        omega
  have h := key (max (k + 1) (max a.length b.length)) (by omega)
  rw [val_take_all a _ (by omega), val_take_all b _ (by omega)] at h
  exact h
theorem eq_of_places (a b : List Int) (hl : a.length = b.length) (hs : ∀ j, at0 a j = at0 b j) : val a = val b := by
  have : a = b := by
    apply List.ext_getElem hl
    intro i h1 h2
    have := hs i
    simpa [at0, h1, h2] using this
  rw [this]
end Go.Proofs.Ythikjpccmplbiaa.BigM
