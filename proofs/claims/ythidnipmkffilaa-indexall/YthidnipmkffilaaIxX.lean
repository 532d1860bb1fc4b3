/-
  The used places of a tidy table hang on the homes alone.
-/
import Derived.Test.YthidnipmkffilaaIxV
namespace Go.Proofs.Ythidnipmkffilaa
open Go
set_option linter.unusedVariables false
namespace Ix
/-- how many of the first places are such. -/
def cp (p : Nat → Bool) : Nat → Nat
  | 0 => 0
  | m + 1 => cp p m + (if p m then 1 else 0)
theorem cp_mono {p q : Nat → Bool} {m : Nat} (h : ∀ j, j < m → p j = true → q j = true) : cp p m ≤ cp q m := by
  induction m with
  | zero => exact Nat.le_refl _
  | succ m ih =>
    have h1 := ih (fun j hj => h j (by omega))
    have h2 := h m (by omega)
    simp only [cp]
    cases hp : p m
    · simp; omega
    · rw [h2 hp]; simp; omega
theorem cp_same {p q : Nat → Bool} {m : Nat} (h : ∀ j, j < m → p j = q j) : cp p m = cp q m :=
  Nat.le_antisymm (cp_mono (fun j hj e => by rw [← h j hj]; exact e)) (cp_mono (fun j hj e => by rw [h j hj]; exact e))
theorem cp_none (m : Nat) : cp (fun _ => false) m = 0 := by
  induction m with
  | zero => rfl
  | succ m ih => simp [cp, ih]
theorem cp_add {p q : Nat → Bool} {j0 m : Nat} (hj : j0 < m) (hp : p j0 = false) (hq : ∀ j, j < m → q j = (p j || decide (j = j0))) : cp q m = cp p m + 1 := by
  induction m with
  | zero => omega
  | succ m ih =>
    simp only [cp]
    by_cases hm : j0 = m
    · subst hm
      have h1 : cp q j0 = cp p j0 := cp_same (fun j hl => by rw [hq j (by omega)]; simp; omega)
      rw [h1, hq j0 (by omega), hp]; simp
    · have h1 := ih (by omega) (fun j hl => hq j (by omega))
      have h2 : q m = p m := by rw [hq m (by omega)]; simp; omega
      rw [h1, h2]; omega
/-- a stretch that ends at a place has as many places as it is long. -/
theorem cp_ring {n i : Nat} (hi : i < n) : ∀ m, m ≤ n → cp (fun j => decide (ds n j i < m)) n = m := by
  intro m
  induction m with
  | zero => intro _; simp [cp_none]
  | succ m ih =>
    intro hm
    obtain ⟨j0, hj0, e0⟩ : ∃ j0, j0 < n ∧ ds n j0 i = m := by
      by_cases hmi : m ≤ i
      · exact ⟨i - m, by omega, by have := ds_eq n (i - m) i; omega⟩
      · exact ⟨i + n - m, by omega, by have := ds_eq n (i + n - m) i; omega⟩
    rw [cp_add (p := fun j => decide (ds n j i < m)) hj0 (by simp; omega) (fun j hj => ?_), ih (by omega)]
    by_cases hjj : j = j0
    · subst hjj; simp; omega
    · have : ds n j i ≠ m := by
        intro e
        have h1 := ds_eq n j i; have h2 := ds_eq n j0 i
        omega
      simp [hjj]; omega
/-- how many keys have their homes in a stretch. -/
def hn (n : Nat) (h : Int → Nat) (T : Tab) (i m : Nat) (j : Nat) : Bool :=
  match T j with
  | none => false
  | some x => decide (ds n (h x.1) i < m)
theorem cp_us (n : Nat) (h : Int → Nat) (T : Tab) (i m : Nat) : ∀ q, cp (hn n h T i m) q = (us T q).countP (fun x => decide (ds n (h x.1) i < m)) := by
  intro q
  induction q with
  | zero => rfl
  | succ q ih =>
    simp only [cp, us, List.countP_append, ih]
    unfold hn
    cases T q with
    | none => simp
    | some x => simp [List.countP_cons]
theorem empty_few {n : Nat} {h : Int → Nat} {T : Tab} (t : Tidy n h T) (hh : ∀ k, h k < n) {i : Nat} (hi : i < n) (he : T i = none) {m : Nat} (h1 : 1 ≤ m) (hm : m ≤ n) : cp (hn n h T i m) n < m := by
  have key : cp (hn n h T i m) n ≤ cp (fun j => decide (ds n j i < m) && decide (j ≠ i)) n := by
    refine cp_mono (fun j hj e => ?_)
    unfold hn at e
    cases hx : T j with
    | none => rw [hx] at e; cases e
    | some x =>
      rw [hx] at e
      obtain ⟨k, v⟩ := x
      simp only [decide_eq_true_eq] at e
      have hji : j ≠ i := by intro e9; subst e9; rw [he] at hx; cases hx
      have hno : ¬ ds n (h k) i < ds n (h k) j := fun hl => t.way j k v hj hx i hi hl he
      have hne : ds n (h k) j ≠ ds n (h k) i := fun e9 => hji (ds_inj (hh k) hj hi e9)
      have h5 := hh k
      have := ds_eq n (h k) i; have := ds_eq n (h k) j; have := ds_eq n j i
      simp [hji]; omega
  have hr := cp_ring hi m hm
  have h2 : cp (fun j => decide (ds n j i < m)) n = cp (fun j => decide (ds n j i < m) && decide (j ≠ i)) n + 1 := by
    refine cp_add hi (by simp) (fun j hj => ?_)
    by_cases hji : j = i
    · subst hji; simp [ds_self]; omega
    · simp [hji]
  omega
theorem used_many {n : Nat} {h : Int → Nat} {T : Tab} (t : Tidy n h T) (hh : ∀ k, h k < n) {i e : Nat} (hi : i < n) (hu : T i ≠ none) (hel : e < n) (he : T e = none) : ∃ m, 1 ≤ m ∧ m ≤ n ∧ m ≤ cp (hn n h T i m) n := by
  -- the nearest empty place ahead
  have hmin : ∃ e, e < n ∧ T e = none ∧ ∀ j, j < n → ds n j i < ds n e i → T j ≠ none := by
    have : ∀ b e, e < n → T e = none → ds n e i ≤ b → ∃ e, e < n ∧ T e = none ∧ ∀ j, j < n → ds n j i < ds n e i → T j ≠ none := by
      intro b
      induction b with
      | zero => intro e hel he hb; exact ⟨e, hel, he, fun j hj hl => by omega⟩
      | succ b ih =>
        intro e hel he hb
        by_cases hx : ∃ j, j < n ∧ ds n j i < ds n e i ∧ T j = none
        · obtain ⟨j, hj, hl, hn⟩ := hx
          exact ih j hj hn (by omega)
        · exact ⟨e, hel, he, fun j hj hl hn => hx ⟨j, hj, hl, hn⟩⟩
    exact this _ e hel he (Nat.le_refl _)
  obtain ⟨e, hel, he, hmin⟩ := hmin
  have hei : e ≠ i := by intro e9; subst e9; exact hu he
  have hpos : 0 < ds n e i := by
    rcases Nat.eq_zero_or_pos (ds n e i) with hx | hx
    · exact absurd (ds_zero hel hx) hei
    · exact hx
  refine ⟨ds n e i, hpos, Nat.le_of_lt (ds_lt hel hi), ?_⟩
  have hr := cp_ring hi (ds n e i) (Nat.le_of_lt (ds_lt hel hi))
  rw [← hr]
  conv => lhs; rw [hr]
  refine Nat.le_trans (Nat.le_of_eq hr.symm) (cp_mono (fun j hj hd => ?_))
  simp only [decide_eq_true_eq] at hd
  have huj := hmin j hj hd
  unfold hn
  cases hx : T j with
  | none => exact absurd hx huj
  | some x =>
    obtain ⟨k, v⟩ := x
    simp only [decide_eq_true_eq]
    have hno : ¬ ds n (h k) e < ds n (h k) j := fun hl => t.way j k v hj hx e hel hl he
    have hje : j ≠ e := by intro e9; subst e9; rw [he] at hx; cases hx
    have hne : ds n (h k) j ≠ ds n (h k) e := fun e9 => hje (ds_inj (hh k) hj hel e9)
    have h5 := hh k
    have := ds_eq n (h k) e; have := ds_eq n (h k) j; have := ds_eq n (h k) i; have := ds_eq n j i; have := ds_eq n e i
    omega
/-- two tidy tables with the same homes have the same places used. -/
theorem same_used {n : Nat} {h : Int → Nat} {T T' : Tab} (t : Tidy n h T) (t' : Tidy n h T') (hh : ∀ k, h k < n) (hp : (us T n).Perm (us T' n)) (hc : cnt T' n < n) {i : Nat} (hi : i < n) : T i = none → T' i = none := by
  intro he
  cases hx : T' i with
  | none => rfl
  | some x =>
    exfalso
    obtain ⟨e, hel, hee⟩ := cnt_free hc
    obtain ⟨m, h1, h2, h3⟩ := used_many t' hh hi (by rw [hx]; simp) hel hee
    have h4 := empty_few t hh hi he h1 h2
    rw [cp_us, hp.countP_eq, ← cp_us n h T' i m] at h4
    omega
end Ix
end Go.Proofs.Ythidnipmkffilaa
