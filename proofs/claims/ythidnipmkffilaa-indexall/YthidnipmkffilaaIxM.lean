/-
  The open table, plain: places in a ring, keys with homes, no key behind a gap.
-/
import Derived.Test.YthidnipmkffilaaChecked
namespace Go.Proofs.Ythidnipmkffilaa
open Go

namespace Ix

/-- A place: nothing, or a key and its value. -/
abbrev Tab := Nat → Option (Int × Int)

def up (T : Tab) (i : Nat) (x : Option (Int × Int)) : Tab := fun j => if j = i then x else T j

theorem up_same (T : Tab) (i : Nat) (x : Option (Int × Int)) : up T i x i = x := by simp [up]
theorem up_other (T : Tab) {i j : Nat} (x : Option (Int × Int)) (h : j ≠ i) : up T i x j = T j := by simp [up, h]
theorem up_up (T : Tab) (i : Nat) (x y : Option (Int × Int)) : up (up T i x) i y = up T i y := by
  funext j; simp only [up]; split <;> rfl
theorem up_id (T : Tab) (i : Nat) : up T i (T i) = T := by
  funext j; simp only [up]; split
  · subst_vars; rfl
  · rfl
theorem up_comm (T : Tab) {i j : Nat} (x y : Option (Int × Int)) (h : i ≠ j) : up (up T i x) j y = up (up T j y) i x := by
  funext m; simp only [up]
  by_cases h1 : m = j
  · subst h1; simp [Ne.symm h]
  · simp [h1]

/-- How far it is from one place on to another. -/
def ds (n a b : Nat) : Nat := if a ≤ b then b - a else b + n - a
/-- The place behind one. -/
def nx (n a : Nat) : Nat := if a + 1 = n then 0 else a + 1

theorem ds_eq (n a b : Nat) : (a ≤ b ∧ ds n a b = b - a) ∨ (b < a ∧ ds n a b = b + n - a) := by
  unfold ds; split
  · exact .inl ⟨by assumption, rfl⟩
  · exact .inr ⟨by omega, rfl⟩
theorem nx_eq (n a : Nat) : (a + 1 = n ∧ nx n a = 0) ∨ (a + 1 ≠ n ∧ nx n a = a + 1) := by
  unfold nx; split
  · exact .inl ⟨by assumption, rfl⟩
  · exact .inr ⟨by assumption, rfl⟩
theorem nx_lt {n a : Nat} (h : a < n) : nx n a < n := by have := nx_eq n a; omega
theorem ds_lt {n a b : Nat} (ha : a < n) (hb : b < n) : ds n a b < n := by have := ds_eq n a b; omega
theorem ds_self (n a : Nat) : ds n a a = 0 := by unfold ds; simp
theorem ds_zero {n a b : Nat} (ha : a < n) (h : ds n a b = 0) : a = b := by have := ds_eq n a b; omega
theorem ds_inj {n a b c : Nat} (ha : a < n) (hb : b < n) (hc : c < n) (h : ds n a b = ds n a c) : b = c := by
  have := ds_eq n a b; have := ds_eq n a c; omega
theorem ds_nx {n a b : Nat} (ha : a < n) (hb : b < n) (hne : ds n a b + 1 < n) : ds n a (nx n b) = ds n a b + 1 := by
  have := ds_eq n a b; have := ds_eq n a (nx n b); have := nx_eq n b; omega
theorem ds_from_nx {n a b : Nat} (ha : a < n) (hb : b < n) (h : a ≠ b) : ds n (nx n a) b + 1 = ds n a b := by
  have := ds_eq n a b; have := ds_eq n (nx n a) b; have := nx_eq n a; omega
theorem ds_self_nx {n a : Nat} (ha : a < n) (h2 : 2 ≤ n) : ds n a (nx n a) = 1 := by
  have := ds_eq n a (nx n a); have := nx_eq n a; omega

/-- How many of the first places are used. -/
def cnt (T : Tab) : Nat → Nat
  | 0 => 0
  | m + 1 => cnt T m + (if (T m).isSome then 1 else 0)

theorem cnt_le (T : Tab) (m : Nat) : cnt T m ≤ m := by
  induction m with
  | zero => simp [cnt]
  | succ m ih => simp only [cnt]; split <;> omega

theorem cnt_up_far (T : Tab) (i : Nat) (x : Option (Int × Int)) {m : Nat} (h : m ≤ i) : cnt (up T i x) m = cnt T m := by
  induction m with
  | zero => rfl
  | succ m ih => simp only [cnt]; rw [ih (by omega), up_other T x (by omega)]

theorem cnt_up (T : Tab) (i : Nat) (x : Option (Int × Int)) {m : Nat} (h : i < m) :
    cnt (up T i x) m + (if (T i).isSome then 1 else 0) = cnt T m + (if x.isSome then 1 else 0) := by
  induction m with
  | zero => omega
  | succ m ih =>
    simp only [cnt]
    by_cases he : i = m
    · subst he; rw [cnt_up_far T i x (Nat.le_refl i), up_same]; omega
    · have := ih (by omega); rw [up_other T x (by omega : m ≠ i)]; omega

theorem cnt_put {T : Tab} {i : Nat} {x : Int × Int} {m : Nat} (h : i < m) (hT : T i = none) : cnt (up T i (some x)) m = cnt T m + 1 := by
  have := cnt_up T i (some x) h; simp [hT] at this; exact this

theorem cnt_cut {T : Tab} {i : Nat} {x : Int × Int} {m : Nat} (h : i < m) (hT : T i = some x) : cnt (up T i none) m + 1 = cnt T m := by
  have := cnt_up T i none h; simp [hT] at this; exact this

theorem cnt_free {T : Tab} {m : Nat} (h : cnt T m < m) : ∃ e, e < m ∧ T e = none := by
  induction m with
  | zero => omega
  | succ m ih =>
    by_cases hm : T m = none
    · exact ⟨m, by omega, hm⟩
    · have hs : (T m).isSome = true := by cases hx : T m with
        | none => exact absurd hx hm
        | some _ => rfl
      simp only [cnt, hs, if_true] at h
      obtain ⟨e, he, hn⟩ := ih (by omega)
      exact ⟨e, by omega, hn⟩

theorem cnt_free2 {T : Tab} {m i : Nat} (hi : i < m) (h : cnt T m + 1 < m) : ∃ e, e < m ∧ e ≠ i ∧ T e = none := by
  have h0 := cnt_up T i (some (0, 0)) hi
  have h1 : cnt (up T i (some (0, 0))) m < m := by
    simp only [Option.isSome_some, if_true] at h0; split at h0 <;> omega
  obtain ⟨e, he, hn⟩ := cnt_free h1
  have hne : e ≠ i := by intro hh; subst hh; rw [up_same] at hn; cases hn
  exact ⟨e, he, hne, by rw [up_other T _ hne] at hn; exact hn⟩

/-- No key stands behind a gap, and none stands twice. -/
structure Tidy (n : Nat) (h : Int → Nat) (T : Tab) : Prop where
  way : ∀ i k v, i < n → T i = some (k, v) → ∀ j, j < n → ds n (h k) j < ds n (h k) i → T j ≠ none
  one : ∀ i j k v v', i < n → j < n → T i = some (k, v) → T j = some (k, v') → i = j

/-- Where a key is found, or the empty place at which the look for it ends. -/
structure Fd (n : Nat) (h : Int → Nat) (T : Tab) (k : Int) (i : Nat) : Prop where
  lt : i < n
  ahead : ∀ j, j < n → ds n (h k) j < ds n (h k) i → ∃ k' v', T j = some (k', v') ∧ k' ≠ k
  here : T i = none ∨ ∃ v, T i = some (k, v)

theorem Fd.uniq {n : Nat} {h : Int → Nat} {T : Tab} {k : Int} {i j : Nat} (hh : h k < n) (a : Fd n h T k i) (b : Fd n h T k j) : i = j := by
  have key : ∀ i j, Fd n h T k i → Fd n h T k j → ¬ ds n (h k) i < ds n (h k) j := by
    intro i j a b hlt
    obtain ⟨k', v', e, ne⟩ := b.ahead i a.lt hlt
    rcases a.here with h0 | ⟨v, h0⟩
    · rw [h0] at e; cases e
    · rw [h0] at e; cases e; exact ne rfl
  have h1 := key i j a b
  have h2 := key j i b a
  exact ds_inj hh a.lt b.lt (by omega)

/-- A key that stands in the table is found. -/
theorem Tidy.found {n : Nat} {h : Int → Nat} {T : Tab} (t : Tidy n h T) {k v : Int} {i : Nat} (hi : i < n) (e : T i = some (k, v)) : Fd n h T k i := by
  refine ⟨hi, ?_, .inr ⟨v, e⟩⟩
  intro j hj hlt
  have hne := t.way i k v hi e j hj hlt
  cases hx : T j with
  | none => exact absurd hx hne
  | some p =>
    obtain ⟨k', v'⟩ := p
    refine ⟨k', v', rfl, ?_⟩
    intro hk; subst hk
    have := t.one i j k' v v' hi hj e hx
    subst this; omega

/-- A key under which something stands somewhere. -/
def Has (n : Nat) (T : Tab) (k v : Int) : Prop := ∃ i, i < n ∧ T i = some (k, v)

theorem Tidy.fd_some {n : Nat} {h : Int → Nat} {T : Tab} (t : Tidy n h T) {k v : Int} {i : Nat} (hh : h k < n) (f : Fd n h T k i) : Has n T k v ↔ T i = some (k, v) := by
  constructor
  · rintro ⟨j, hj, e⟩
    have := Fd.uniq hh f (t.found hj e)
    subst this; exact e
  · intro e; exact ⟨i, f.lt, e⟩

theorem Tidy.fd_none {n : Nat} {h : Int → Nat} {T : Tab} (t : Tidy n h T) {k : Int} {i : Nat} (hh : h k < n) (f : Fd n h T k i) : T i = none ↔ ∀ v, ¬ Has n T k v := by
  constructor
  · intro e v hv; rw [t.fd_some hh f, e] at hv; cases hv
  · intro hv
    rcases f.here with e | ⟨v, e⟩
    · exact e
    · exact absurd ((t.fd_some hh f).2 e) (hv v)

theorem Has.one {n : Nat} {h : Int → Nat} {T : Tab} (t : Tidy n h T) {k v v' : Int} (a : Has n T k v) (b : Has n T k v') : v = v' := by
  obtain ⟨i, hi, e⟩ := a
  obtain ⟨j, hj, e'⟩ := b
  have := t.one i j k v v' hi hj e e'
  subst this; rw [e] at e'; cases e'; rfl

/-- A key put at the end of the look for it. -/
theorem Tidy.put {n : Nat} {h : Int → Nat} {T : Tab} (t : Tidy n h T) {k : Int} (v : Int) {i : Nat} (hh : h k < n) (f : Fd n h T k i) (e : T i = none) : Tidy n h (up T i (some (k, v))) := by
  have hno := (t.fd_none hh f).1 e
  constructor
  · intro a k' v' ha he j hj hlt
    by_cases hji : j = i
    · subst hji; rw [up_same]; simp
    · rw [up_other T _ hji]
      by_cases hai : a = i
      · subst hai; rw [up_same] at he; cases he
        obtain ⟨k2, v2, e2, _⟩ := f.ahead j hj hlt
        rw [e2]; simp
      · rw [up_other T _ hai] at he
        exact t.way a k' v' ha he j hj hlt
  · intro a b k' v1 v2 ha hb e1 e2
    by_cases hai : a = i
    · by_cases hbi : b = i
      · omega
      · subst hai; rw [up_same] at e1; cases e1
        rw [up_other T _ hbi] at e2
        exact absurd ⟨b, hb, e2⟩ (hno v2)
    · by_cases hbi : b = i
      · subst hbi; rw [up_same] at e2; cases e2
        rw [up_other T _ hai] at e1
        exact absurd ⟨a, ha, e1⟩ (hno v1)
      · rw [up_other T _ hai] at e1; rw [up_other T _ hbi] at e2
        exact t.one a b k' v1 v2 ha hb e1 e2

theorem has_put {n : Nat} {T : Tab} {k v : Int} {i : Nat} (hi : i < n) (e : T i = none) (k' v' : Int) : Has n (up T i (some (k, v))) k' v' ↔ (k' = k ∧ v' = v) ∨ Has n T k' v' := by
  constructor
  · rintro ⟨j, hj, h⟩
    by_cases hji : j = i
    · subst hji; rw [up_same] at h; cases h; exact .inl ⟨rfl, rfl⟩
    · rw [up_other T _ hji] at h; exact .inr ⟨j, hj, h⟩
  · rintro (⟨rfl, rfl⟩ | ⟨j, hj, h⟩)
    · exact ⟨i, hi, up_same _ _ _⟩
    · have hji : j ≠ i := by intro hh; subst hh; rw [e] at h; cases h
      exact ⟨j, hj, by rw [up_other T _ hji]; exact h⟩

/-- Those behind a hole move up. -/
def sh (n : Nat) (h : Int → Nat) : Nat → Tab → Nat → Nat → Tab
  | 0, T, _, _ => T
  | f + 1, T, hole, a =>
    match T a with
    | none => T
    | some (k, v) =>
      if ds n hole a ≤ ds n (h k) a then sh n h f (up (up T hole (some (k, v))) a none) a (nx n a)
      else sh n h f T hole (nx n a)

/-- What holds of a table with a hole, up to a place behind it. -/
structure Gap (n : Nat) (h : Int → Nat) (T : Tab) (hole a e : Nat) : Prop where
  hole_lt : hole < n
  a_lt : a < n
  e_lt : e < n
  noh : T hole = none
  ne : hole ≠ e
  free : T e = none
  pos : 0 < ds n hole a
  le : ds n hole a ≤ ds n hole e
  used : ∀ j, j < n → 0 < ds n hole j → ds n hole j < ds n hole a → T j ≠ none
  one : ∀ i j k v v', i < n → j < n → T i = some (k, v) → T j = some (k, v') → i = j
  way : ∀ i k v, i < n → T i = some (k, v) → ∀ j, j < n → ds n (h k) j < ds n (h k) i → T j ≠ none ∨ (j = hole ∧ ds n hole a ≤ ds n hole i)

theorem Gap.tidy {n : Nat} {h : Int → Nat} (hh : ∀ k, h k < n) {T : Tab} {hole a e : Nat} (g : Gap n h T hole a e) (hn : T a = none) : Tidy n h T := by
  refine ⟨?_, g.one⟩
  intro i k v hi ei j hj hlt
  rcases g.way i k v hi ei j hj hlt with h1 | ⟨h1, h2⟩
  · exact h1
  · exfalso
    subst h1
    have hia : i ≠ a := by intro hx; subst hx; rw [hn] at ei; cases ei
    have hlt2 : ds n j a < ds n j i := by
      rcases Nat.lt_or_ge (ds n j a) (ds n j i) with hx | hx
      · exact hx
      · exact absurd (ds_inj hj hi g.a_lt (by omega)) hia
    have hk := hh k
    have ha := g.a_lt
    have hin : ds n (h k) a < ds n (h k) i := by
      have := ds_eq n (h k) j; have := ds_eq n (h k) i; have := ds_eq n j a; have := ds_eq n j i; have := ds_eq n (h k) a
      omega
    rcases g.way i k v hi ei a ha hin with h3 | ⟨h3, _⟩
    · exact h3 hn
    · subst h3; have := g.pos; rw [ds_self] at this; omega

theorem Gap.stay {n : Nat} {h : Int → Nat} (hh : ∀ k, h k < n) {T : Tab} {hole a e : Nat} (g : Gap n h T hole a e) {k v : Int} (ea : T a = some (k, v)) (hs : ¬ ds n hole a ≤ ds n (h k) a) : Gap n h T hole (nx n a) e := by
  have hae : a ≠ e := by intro hx; subst hx; rw [g.free] at ea; cases ea
  have hlt : ds n hole a < ds n hole e := by
    rcases Nat.lt_or_ge (ds n hole a) (ds n hole e) with hx | hx
    · exact hx
    · exact absurd (ds_inj g.hole_lt g.a_lt g.e_lt (by have := g.le; omega)) hae
  have hel := ds_lt g.hole_lt g.e_lt
  have hnx := ds_nx g.hole_lt g.a_lt (by omega)
  refine ⟨g.hole_lt, nx_lt g.a_lt, g.e_lt, g.noh, g.ne, g.free, by omega, by omega, ?_, g.one, ?_⟩
  · intro j hj h0 h1
    rw [hnx] at h1
    by_cases hja : j = a
    · subst hja; rw [ea]; simp
    · have : ds n hole j ≠ ds n hole a := fun hx => hja (ds_inj g.hole_lt hj g.a_lt hx)
      exact g.used j hj h0 (by omega)
  · intro i k' v' hi ei j hj hlt'
    rcases g.way i k' v' hi ei j hj hlt' with h1 | ⟨h1, h2⟩
    · exact .inl h1
    · by_cases hia : i = a
      · subst hia; rw [ea] at ei; cases ei
        subst h1
        exfalso
        have hk := hh k
        have := ds_eq n (h k) j; have := ds_eq n (h k) i; have := ds_eq n j i
        omega
      · refine .inr ⟨h1, ?_⟩
        have : ds n hole i ≠ ds n hole a := fun hx => hia (ds_inj g.hole_lt hi g.a_lt hx)
        rw [hnx]; omega

theorem Gap.move {n : Nat} {h : Int → Nat} (hh : ∀ k, h k < n) {T : Tab} {hole a e : Nat} (g : Gap n h T hole a e) {k v : Int} (ea : T a = some (k, v)) (hs : ds n hole a ≤ ds n (h k) a) : Gap n h (up (up T hole (some (k, v))) a none) a (nx n a) e := by
  have hae : a ≠ e := by intro hx; subst hx; rw [g.free] at ea; cases ea
  have hha : hole ≠ a := by intro hx; subst hx; have := g.pos; rw [ds_self] at this; omega
  have h2 : 2 ≤ n := by have := g.hole_lt; have := g.a_lt; omega
  have hone := ds_self_nx g.a_lt h2
  have hpe : 0 < ds n a e := by
    rcases Nat.eq_zero_or_pos (ds n a e) with hx | hx
    · exact absurd (ds_zero g.a_lt hx) hae
    · exact hx
  have hk := hh k
  have hal := g.a_lt
  have hhl := g.hole_lt
  -- where a used place of the new table was
  have was : ∀ i k' v', up (up T hole (some (k, v))) a none i = some (k', v') → i ≠ a ∧ ((i = hole ∧ k' = k ∧ v' = v) ∨ (i ≠ hole ∧ T i = some (k', v'))) := by
    intro i k' v' hi
    have hia : i ≠ a := by intro hx; subst hx; rw [up_same] at hi; cases hi
    rw [up_other _ _ hia] at hi
    refine ⟨hia, ?_⟩
    by_cases hih : i = hole
    · subst hih; rw [up_same] at hi; cases hi; exact .inl ⟨rfl, rfl, rfl⟩
    · rw [up_other _ _ hih] at hi; exact .inr ⟨hih, hi⟩
  have still : ∀ j, j ≠ a → (T j ≠ none ∨ j = hole) → up (up T hole (some (k, v))) a none j ≠ none := by
    intro j hja hj
    rw [up_other _ _ hja]
    by_cases hjh : j = hole
    · subst hjh; rw [up_same]; simp
    · rw [up_other _ _ hjh]; rcases hj with hj | hj
      · exact hj
      · exact absurd hj hjh
  refine ⟨hal, nx_lt hal, g.e_lt, up_same _ _ _, hae, ?_, by omega, by omega, ?_, ?_, ?_⟩
  · rw [up_other _ _ (Ne.symm hae), up_other _ _ (Ne.symm g.ne)]; exact g.free
  · intro j hj h0 h1; omega
  · intro i j k' v1 v2 hi hj e1 e2
    obtain ⟨hia, h1⟩ := was i k' v1 e1
    obtain ⟨hja, h3⟩ := was j k' v2 e2
    rcases h1 with ⟨r1, r2, r3⟩ | ⟨r1, r2⟩
    · rcases h3 with ⟨s1, s2, s3⟩ | ⟨s1, s2⟩
      · omega
      · subst r2; exact absurd (g.one j a k' v2 v hj hal s2 ea) hja
    · rcases h3 with ⟨s1, s2, s3⟩ | ⟨s1, s2⟩
      · subst s2; exact absurd (g.one i a k' v1 v hi hal r2 ea) hia
      · exact g.one i j k' v1 v2 hi hj r2 s2
  · intro i k' v' hi ei j hj hlt
    obtain ⟨hia, h1⟩ := was i k' v' ei
    by_cases hja : j = a
    · refine .inr ⟨hja, ?_⟩
      rw [hone]
      rcases Nat.eq_zero_or_pos (ds n a i) with hx | hx
      · exact absurd (ds_zero hal hx).symm hia
      · exact hx
    · refine .inl (still j hja ?_)
      rcases h1 with ⟨r1, r2, r3⟩ | ⟨r1, r2⟩
      · subst r1 r2 r3
        have hlt2 : ds n (h k') j < ds n (h k') a := by
          have hpos := g.pos
          have := ds_eq n (h k') j; have := ds_eq n (h k') i; have := ds_eq n i a; have := ds_eq n (h k') a
          omega
        rcases g.way a k' v' hal ea j hj hlt2 with h3 | ⟨h3, _⟩
        · exact .inl h3
        · exact .inr h3
      · rcases g.way i k' v' hi r2 j hj hlt with h3 | ⟨h3, _⟩
        · exact .inl h3
        · exact .inr h3

/-- What stands in a table stays in it when what is behind a hole moves up. -/
theorem has_move {n : Nat} {T : Tab} {hole a : Nat} {k v : Int} (hh : hole < n) (ha : a < n) (hne : hole ≠ a) (hn : T hole = none) (ea : T a = some (k, v)) (k' v' : Int) : Has n (up (up T hole (some (k, v))) a none) k' v' ↔ Has n T k' v' := by
  constructor
  · rintro ⟨i, hi, e⟩
    by_cases hia : i = a
    · subst hia; rw [up_same] at e; cases e
    · rw [up_other _ _ hia] at e
      by_cases hih : i = hole
      · subst hih; rw [up_same] at e; cases e; exact ⟨a, ha, ea⟩
      · rw [up_other _ _ hih] at e; exact ⟨i, hi, e⟩
  · rintro ⟨i, hi, e⟩
    by_cases hia : i = a
    · subst hia; rw [ea] at e; cases e
      exact ⟨hole, hh, by rw [up_other _ _ hne, up_same]⟩
    · have hih : i ≠ hole := by intro hx; subst hx; rw [hn] at e; cases e
      exact ⟨i, hi, by rw [up_other _ _ hia, up_other _ _ hih]; exact e⟩

theorem cnt_move {n : Nat} {T : Tab} {hole a : Nat} {x : Int × Int} (hh : hole < n) (ha : a < n) (hne : hole ≠ a) (hn : T hole = none) (ea : T a = some x) : cnt (up (up T hole (some x)) a none) n = cnt T n := by
  have h1 := cnt_put (x := x) hh hn
  have h2 : up T hole (some x) a = some x := by rw [up_other _ _ (Ne.symm hne)]; exact ea
  have h3 := cnt_cut ha h2
  omega

theorem sh_tidy {n : Nat} {h : Int → Nat} (hh : ∀ k, h k < n) (f : Nat) : ∀ (T : Tab) (hole a e : Nat), Gap n h T hole a e → ds n a e < f →
    Tidy n h (sh n h f T hole a) ∧ (∀ k v, Has n (sh n h f T hole a) k v ↔ Has n T k v) ∧ cnt (sh n h f T hole a) n = cnt T n := by
  induction f with
  | zero => intro T hole a e g hf; omega
  | succ f ih =>
    intro T hole a e g hf
    have hha : hole ≠ a := by intro hx; subst hx; have := g.pos; rw [ds_self] at this; omega
    unfold sh
    cases hx : T a with
    | none => exact ⟨g.tidy hh hx, fun _ _ => Iff.rfl, rfl⟩
    | some p =>
      obtain ⟨k, v⟩ := p
      have hae : a ≠ e := by intro hy; subst hy; rw [g.free] at hx; cases hx
      have hd := ds_from_nx g.a_lt g.e_lt hae
      by_cases hs : ds n hole a ≤ ds n (h k) a
      · simp only [hs, if_true]
        obtain ⟨h1, h2, h3⟩ := ih _ a (nx n a) e (g.move hh hx hs) (by omega)
        refine ⟨h1, fun k' v' => (h2 k' v').trans (has_move g.hole_lt g.a_lt hha g.noh hx k' v'), ?_⟩
        rw [h3]; exact cnt_move g.hole_lt g.a_lt hha g.noh hx
      · simp only [hs, if_false]
        exact ih T hole (nx n a) e (g.stay hh hx hs) (by omega)

/-- A table from which a key was cut, ahead of the moving up. -/
theorem Tidy.gap {n : Nat} {h : Int → Nat} {T : Tab} (t : Tidy n h T) {hole e : Nat} {k v : Int} (h2 : 2 ≤ n) (hl : hole < n) (eh : T hole = some (k, v)) (he : e < n) (hne : hole ≠ e) (hf : T e = none) : Gap n h (up T hole none) hole (nx n hole) e := by
  have hone := ds_self_nx hl h2
  have hpe : 0 < ds n hole e := by
    rcases Nat.eq_zero_or_pos (ds n hole e) with hx | hx
    · exact absurd (ds_zero hl hx) hne
    · exact hx
  have was : ∀ i k' v', up T hole none i = some (k', v') → i ≠ hole ∧ T i = some (k', v') := by
    intro i k' v' hi
    have hih : i ≠ hole := by intro hx; subst hx; rw [up_same] at hi; cases hi
    rw [up_other _ _ hih] at hi; exact ⟨hih, hi⟩
  refine ⟨hl, nx_lt hl, he, up_same _ _ _, hne, by rw [up_other _ _ (Ne.symm hne)]; exact hf, by omega, by omega, ?_, ?_, ?_⟩
  · intro j hj h0 h1; omega
  · intro i j k' v1 v2 hi hj e1 e2
    exact t.one i j k' v1 v2 hi hj (was i k' v1 e1).2 (was j k' v2 e2).2
  · intro i k' v' hi ei j hj hlt
    obtain ⟨hih, ei'⟩ := was i k' v' ei
    have := t.way i k' v' hi ei' j hj hlt
    by_cases hjh : j = hole
    · refine .inr ⟨hjh, ?_⟩
      rw [hone]
      rcases Nat.eq_zero_or_pos (ds n hole i) with hx | hx
      · exact absurd (ds_zero hl hx).symm hih
      · exact hx
    · exact .inl (by rw [up_other _ _ hjh]; exact this)

/-- A key taken out. -/
def dr (n : Nat) (h : Int → Nat) (T : Tab) (hole : Nat) : Tab := sh n h n (up T hole none) hole (nx n hole)

theorem Tidy.drop {n : Nat} {h : Int → Nat} (hh : ∀ k, h k < n) {T : Tab} (t : Tidy n h T) {hole e : Nat} {k v : Int} (h2 : 2 ≤ n) (hl : hole < n) (eh : T hole = some (k, v)) (he : e < n) (hne : hole ≠ e) (hf : T e = none) :
    Tidy n h (dr n h T hole) ∧ (∀ k' v', Has n (dr n h T hole) k' v' ↔ k' ≠ k ∧ Has n T k' v') ∧ cnt (dr n h T hole) n + 1 = cnt T n := by
  obtain ⟨h1, h3, h4⟩ := sh_tidy hh n _ _ _ e (t.gap h2 hl eh he hne hf) (ds_lt (nx_lt hl) he)
  refine ⟨h1, ?_, ?_⟩
  · intro k' v'
    refine (h3 k' v').trans ?_
    constructor
    · rintro ⟨i, hi, ei⟩
      have hih : i ≠ hole := by intro hx; subst hx; rw [up_same] at ei; cases ei
      rw [up_other _ _ hih] at ei
      refine ⟨?_, i, hi, ei⟩
      intro hk; subst hk; exact hih (t.one i hole k' v' v hi hl ei eh)
    · rintro ⟨hk, i, hi, ei⟩
      have hih : i ≠ hole := by intro hx; subst hx; rw [eh] at ei; cases ei; exact hk rfl
      exact ⟨i, hi, by rw [up_other _ _ hih]; exact ei⟩
  · show cnt (sh n h n (up T hole none) hole (nx n hole)) n + 1 = cnt T n
    rw [h4]; exact cnt_cut hl eh

/-- The empty table. -/
def nil : Tab := fun _ => none
theorem cnt_nil (m : Nat) : cnt nil m = 0 := by
  induction m with
  | zero => rfl
  | succ m ih => simp [cnt, ih, nil]
theorem tidy_nil (n : Nat) (h : Int → Nat) : Tidy n h nil := ⟨fun i k v _ e => by simp [nil] at e, fun i j k v v' _ _ e => by simp [nil] at e⟩
theorem has_nil (n : Nat) (k v : Int) : ¬ Has n nil k v := by rintro ⟨i, _, e⟩; simp [nil] at e

/-- The look for a key ends. -/
theorem fd_go {n : Nat} {h : Int → Nat} {T : Tab} {k : Int} (hk : h k < n) {e : Nat} (he : e < n) (hf : T e = none) : ∃ i, Fd n h T k i := by
  have key : ∀ m a, a < n → ds n a e ≤ m → (∀ j, j < n → ds n (h k) j < ds n (h k) a → ∃ k' v', T j = some (k', v') ∧ k' ≠ k) → ds n (h k) a ≤ ds n (h k) e → ∃ i, Fd n h T k i := by
    intro m
    induction m with
    | zero =>
      intro a ha hm hb _
      have : a = e := ds_zero ha (by omega)
      subst this
      exact ⟨a, ha, hb, .inl hf⟩
    | succ m ih =>
      intro a ha hm hb hle
      by_cases hend : T a = none ∨ ∃ v, T a = some (k, v)
      · exact ⟨a, ha, hb, hend⟩
      · have hae : a ≠ e := by intro hx; subst hx; exact hend (.inl hf)
        have hd := ds_from_nx ha he hae
        have hlt : ds n (h k) a < ds n (h k) e := by
          rcases Nat.lt_or_ge (ds n (h k) a) (ds n (h k) e) with hx | hx
          · exact hx
          · exact absurd (ds_inj hk ha he (by omega)) hae
        have hel := ds_lt hk he
        have hnx := ds_nx hk ha (by omega)
        refine ih (nx n a) (nx_lt ha) (by omega) ?_ (by omega)
        intro j hj hlt2
        by_cases hja : j = a
        · subst hja
          cases hx : T j with
          | none => exact absurd (.inl hx) hend
          | some p =>
            obtain ⟨k', v'⟩ := p
            refine ⟨k', v', rfl, ?_⟩
            intro hk'; subst hk'; exact hend (.inr ⟨v', hx⟩)
        · have : ds n (h k) j ≠ ds n (h k) a := fun hx => hja (ds_inj hk hj ha hx)
          exact hb j hj (by omega)
  refine key _ (h k) hk (Nat.le_refl _) ?_ ?_
  · intro j hj hlt; rw [ds_self] at hlt; omega
  · rw [ds_self]; omega

end Ix
end Go.Proofs.Ythidnipmkffilaa
