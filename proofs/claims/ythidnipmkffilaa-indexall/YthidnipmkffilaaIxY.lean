/-
  Two tables with the same keys and values: their used ones are one list, but for the order.
-/
import Derived.Test.YthidnipmkffilaaIxX
import Derived.Test.YthidnipmkffilaaIxP
namespace Go.Proofs.Ythidnipmkffilaa
open Go.RowKit Go.Deep
set_option linter.unusedVariables false
set_option linter.unusedSimpArgs false
theorem us_nodup {n : Nat} {h : Int → Nat} {T : Ix.Tab} (t : Ix.Tidy n h T) : ∀ m, m ≤ n → (us T m).Nodup := by
  intro m
  induction m with
  | zero => intro _; simp [us]
  | succ m ih =>
    intro hm
    simp only [us]
    rw [List.nodup_append]
    refine ⟨ih (by omega), by cases T m <;> simp, ?_⟩
    rintro ⟨k, v⟩ ha b hb rfl
    have e : T m = some (k, v) := by simpa using hb
    obtain ⟨i, hi, ei⟩ := (us_mem T m k v).1 ha
    have := t.one i m k v v (by omega) (by omega) ei e
    omega
theorem us_keys {n : Nat} {h : Int → Nat} {T : Ix.Tab} (t : Ix.Tidy n h T) {k v v' : Int} (a : (k, v) ∈ us T n) (b : (k, v') ∈ us T n) : v = v' := by
  obtain ⟨i, hi, ei⟩ := (us_mem T n k v).1 a
  obtain ⟨j, hj, ej⟩ := (us_mem T n k v').1 b
  have := t.one i j k v v' hi hj ei ej
  subst this
  rw [ei] at ej
  simpa using ej
theorem us_perm {n : Nat} {h h' : Int → Nat} {T T' : Ix.Tab} (t : Ix.Tidy n h T) (t' : Ix.Tidy n h' T') (hh : ∀ k v, Ix.Has n T k v ↔ Ix.Has n T' k v) : (us T n).Perm (us T' n) := by
  refine (List.perm_ext_iff_of_nodup (us_nodup t n (Nat.le_refl _)) (us_nodup t' n (Nat.le_refl _))).2 ?_
  rintro ⟨k, v⟩
  rw [us_mem, us_mem]
  exact hh k v
/-- the first ones of a list of keys stand in a table, and no others. -/
structure Gone (n : Nat) (T : Ix.Tab) (d : List (Int × Int)) : Prop where
  has : ∀ k v, Ix.Has n T k v ↔ (k, v) ∈ d
  cnt : Ix.cnt T n = d.length
theorem Gone.nil (n : Nat) : Gone n (fun _ => none) [] := by
  refine ⟨fun k v => ?_, ?_⟩
  · simp [Ix.Has]
  · induction n with
    | zero => rfl
    | succ n ih => simpa [Ix.cnt] using ih
theorem Gone.put {n room : Nat} {T T' : Ix.Tab} {d r : List (Int × Int)} {k v c : Int} (g : Gone n T d) (hp : PutR n room T k v c T') (hl : (d ++ (k, v) :: r).length ≤ room)
    (hn : (d ++ (k, v) :: r).Nodup)
    (hu : ∀ a b b', (a, b) ∈ d ++ (k, v) :: r → (a, b') ∈ d ++ (k, v) :: r → b = b') : c = 0 ∧ Gone n T' (d ++ [(k, v)]) := by
  have hno : ∀ u, ¬ Ix.Has n T k u := by
    intro u hu'
    have h1 : (k, u) ∈ d := (g.has k u).1 hu'
    have e := hu k u v (by simp [h1]) (by simp)
    subst e
    rw [List.nodup_append] at hn
    exact hn.2.2 _ h1 _ (by simp) rfl
  rcases hp with ⟨_, _, u, hu'⟩ | ⟨_, _, _, hc⟩ | ⟨rfl, _, _, hh, hc⟩
  · exact absurd hu' (hno u)
  · rw [g.cnt] at hc
    simp at hl
    omega
  · refine ⟨rfl, fun k' v' => ?_, ?_⟩
    · rw [hh, g.has]
      simp only [List.mem_append, List.mem_singleton, Prod.mk.injEq]
      constructor
      · rintro (h | h)
        · exact .inr h
        · exact .inl h
      · rintro (h | h)
        · exact .inr h
        · exact .inl h
    · rw [hc, g.cnt]; simp
end Go.Proofs.Ythidnipmkffilaa
