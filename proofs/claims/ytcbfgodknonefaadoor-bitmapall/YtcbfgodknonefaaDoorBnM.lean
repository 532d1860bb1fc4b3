/-
  A set as the list of its ticks: plain.
-/
import Derived.Test.YtcbfgodknonefaaDoorBmZ
import Derived.Test.YtcbfgodknonefaaDoorBmS
namespace Go.Proofs.YtcbfgodknonefaaDoor
open Go.RowKit Go.Deep Bt
set_option linter.unusedVariables false
set_option maxRecDepth 100000

/-- the ticks of a set below a number, rising. -/
def tks (S : Nat → Bool) (n : Nat) : List Nat := (List.range n).filter S
def tl (S : Nat → Bool) : List Int := (tks S 262144).map fun (x : Nat) => (x : Int)
theorem tks_succ (S : Nat → Bool) (n : Nat) : tks S (n + 1) = if S n then tks S n ++ [n] else tks S n := by
  unfold tks
  rw [List.range_succ, List.filter_append]
  cases h : S n <;> simp [h]
theorem tks_len (S : Nat → Bool) (n : Nat) : (tks S n).length = cn S n := by
  induction n with
  | zero => rfl
  | succ n ih =>
    rw [tks_succ, cn]
    cases h : S n
    · simp [ih]
    · simp [ih]
theorem tks_get (S : Nat → Bool) (n : Nat) : ∀ i (h : i < (tks S n).length), S (tks S n)[i] = true ∧ (tks S n)[i] < n ∧ cn S (tks S n)[i] = i := by
  induction n with
  | zero => intro i h; simp [tks] at h
  | succ n ih =>
    intro i h
    have e := tks_succ S n
    cases hb : S n with
    | false =>
      rw [hb] at e
      simp only [Bool.false_eq_true, if_false] at e
      have h' : i < (tks S n).length := by rw [e] at h; exact h
      obtain ⟨a, b, c⟩ := ih i h'
      simp only [e]
      exact ⟨a, by omega, c⟩
    | true =>
      rw [hb] at e
      simp only [if_true] at e
      have h' : i < (tks S n ++ [n]).length := by rw [e] at h; exact h
      simp only [e]
      by_cases hi : i < (tks S n).length
      · rw [List.getElem_append_left hi]
        obtain ⟨a, b, c⟩ := ih i hi
        exact ⟨a, by omega, c⟩
      · have hi2 : i = (tks S n).length := by simp at h'; omega
        subst hi2
        rw [List.getElem_append_right (Nat.le_refl _)]
        simp only [Nat.sub_self, List.getElem_cons_zero]
        exact ⟨hb, by omega, by rw [tks_len]⟩
theorem tl_len (S : Nat → Bool) : (tl S).length = len S := by unfold tl len; rw [List.length_map, tks_len]
theorem tl_get (S : Nat → Bool) (i : Nat) (h : i < (tl S).length) : ∃ u : Nat, (tl S)[i] = (u : Int) ∧ S u = true ∧ u < 262144 ∧ cn S u = i := by
  have h' : i < (tks S 262144).length := by unfold tl at h; rwa [List.length_map] at h
  obtain ⟨a, b, c⟩ := tks_get S 262144 i h'
  exact ⟨_, by simp [tl], a, b, c⟩
theorem len_le (S : Nat → Bool) : len S ≤ 262144 := cn_le S 262144
theorem ahd_len (S : Nat → Bool) (n : Int) : ahd S n ≤ len S := by unfold ahd len; exact cn_mono S (by omega)
/-- a tick is below a number just if its rank is below that number's. -/
theorem rank_lt {S : Nat → Bool} {u : Nat} (hu : S u = true) (hl : u < 262144) (n : Int) : (u : Int) < n ↔ cn S u < ahd S n := by
  constructor
  · intro h
    have h1 : cn S (u + 1) = cn S u + 1 := by rw [cn, hu]; rfl
    have h2 : cn S (u + 1) ≤ ahd S n := by unfold ahd; exact cn_mono S (by omega)
    omega
  · intro h
    by_cases c : (u : Int) < n
    · exact c
    · have : ahd S n ≤ cn S u := by unfold ahd; exact cn_mono S (by omega)
      omega
theorem ahd_has (S : Nat → Bool) (n : Int) (h : hasI S n = true) : ∃ u : Nat, n = (u : Int) ∧ S u = true ∧ u < 262144 ∧ cn S u = ahd S n := by
  unfold hasI at h
  simp only [Bool.and_eq_true, decide_eq_true_eq] at h
  obtain ⟨⟨h1, h2⟩, h3⟩ := h
  refine ⟨n.toNat, by omega, h3, by omega, ?_⟩
  unfold ahd
  rw [Nat.min_eq_left (by omega)]
/-- what stands at a number's place. -/
theorem place_at {S : Nat → Bool} {n : Int} (h : ahd S n < (tl S).length) : ((tl S)[ahd S n] = n ↔ hasI S n = true) := by
  obtain ⟨u, e, hu, hl, hc⟩ := tl_get S _ h
  rw [e]
  constructor
  · intro hn
    rw [← hn, hasI_nat S u hl]; exact hu
  · intro hh
    obtain ⟨v, hv, hv1, hv2, hv3⟩ := ahd_has S n hh
    rw [hv]
    rcases Nat.lt_trichotomy u v with c | c | c
    · have := cn_lt c hu; omega
    · rw [c]
    · have := cn_lt c hv1; omega
theorem place_end {S : Nat → Bool} {n : Int} (h : ¬ ahd S n < (tl S).length) : hasI S n = false := by
  cases hh : hasI S n with
  | false => rfl
  | true =>
    obtain ⟨u, _, hu, hl, hc⟩ := ahd_has S n hh
    have := cn_lt (v := 262144) hl hu
    rw [tl_len] at h
    unfold len at h
    omega
theorem tks_split (S : Nat → Bool) (k n : Nat) (h : k ≤ n) : tks S n = tks S k ++ (tks S n).drop (cn S k) := by
  induction n with
  | zero => have : k = 0 := by omega
            subst this; rfl
  | succ n ih =>
    by_cases e : k = n + 1
    · subst e
      rw [List.drop_eq_nil_of_le (by rw [tks_len]; exact Nat.le_refl _), List.append_nil]
    · have h2 := ih (by omega)
      have hk : cn S k ≤ (tks S n).length := by rw [tks_len]; exact cn_mono S (by omega)
      rw [tks_succ]
      cases hb : S n with
      | false => simpa using h2
      | true =>
        simp only [if_true]
        rw [List.drop_append_of_le_length hk, ← List.append_assoc, ← h2]
theorem tks_take (S : Nat → Bool) (k n : Nat) (h : k ≤ n) : (tks S n).take (cn S k) = tks S k := by
  rw [tks_split S k n h, ← tks_len S k]
  simp
theorem tks_cong {S T : Nat → Bool} (n : Nat) (h : ∀ x, x < n → S x = T x) : tks S n = tks T n := by
  unfold tks
  exact List.filter_congr (fun x hx => h x (List.mem_range.1 hx))
/-- a tick put in. -/
theorem tks_ins (S : Nat → Bool) (k n : Nat) (hk : k < n) (hS : S k = false) : tks (ins S k) n = (tks S n).take (cn S k) ++ k :: (tks S n).drop (cn S k) := by
  rw [tks_take S k n (by omega)]
  have h1 : tks (ins S k) k = tks S k := tks_cong k (fun x hx => by
    have : ¬ x = k := by omega
    unfold ins; simp [this])
  have c1 : cn (ins S k) k = cn S k := by rw [← tks_len, h1, tks_len]
  have h2 : ∀ m, k < m → tks (ins S k) m = tks S k ++ k :: (tks S m).drop (cn S k) := by
    intro m hm
    induction m with
    | zero => omega
    | succ m ih =>
      by_cases e : m = k
      · subst e
        have hx : ins S m m = true := by unfold ins; simp
        rw [tks_succ, hx, tks_succ, hS, h1]
        simp only [if_true, Bool.false_eq_true, if_false]
        rw [List.drop_eq_nil_of_le (by rw [tks_len]; exact Nat.le_refl _)]
      · have hx : ins S k m = S m := by unfold ins; simp [e]
        have hk2 : cn S k ≤ (tks S m).length := by rw [tks_len]; exact cn_mono S (by omega)
        rw [tks_succ, hx, tks_succ, ih (by omega)]
        cases S m with
        | false => simp
        | true =>
          simp only [if_true]
          rw [List.drop_append_of_le_length hk2]
          simp
  exact h2 n hk
theorem tl_ins (S : Nat → Bool) (k : Nat) (hk : k < 262144) (hS : S k = false) : tl (ins S k) = (tl S).take (ahd S (k : Int)) ++ (k : Int) :: (tl S).drop (ahd S (k : Int)) := by
  have e : ahd S (k : Int) = cn S k := by unfold ahd; rw [Int.toNat_natCast, Nat.min_eq_left (by omega)]
  unfold tl
  rw [tks_ins S k _ hk hS, e, ← List.map_take, ← List.map_drop]
  simp
theorem tl_emp : tl emp = [] := by
  unfold tl tks
  have : (List.range 262144).filter emp = [] := by
    rw [List.filter_eq_nil_iff]
    intro a _
    simp [emp]
  rw [this]; rfl
end Go.Proofs.YtcbfgodknonefaaDoor
