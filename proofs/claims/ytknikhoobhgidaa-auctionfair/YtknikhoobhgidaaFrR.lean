/-
  What is left of each one, plain.
-/
import Derived.Test.YtknikhoobhgidaaFrQ
namespace Go.Proofs.Ytknikhoobhgidaa
open Go.RowKit Go.Deep Go.Shelf
set_option linter.unusedVariables false
set_option linter.unusedSimpArgs false
theorem rml_ids : ∀ {l : List It} {V : Int} {y : It}, y ∈ rml V l → ∃ x ∈ l, y.id = x.id
  | [], _, _, h => by cases h
  | x :: l, V, y, h => by
    unfold rml at h
    split at h
    · obtain ⟨z, hz, e⟩ := rml_ids h
      exact ⟨z, by simp [hz], e⟩
    split at h
    · exact ⟨y, h, rfl⟩
    · rcases List.mem_cons.1 h with rfl | h
      · exact ⟨x, by simp, rfl⟩
      · exact ⟨y, by simp [h], rfl⟩
theorem lfo_gone {id : Int} {l : List It} (h : ∀ y ∈ l, y.id ≠ id) : lfo id l = 0 := lfo_none (fun j hj => h _ (List.getElem_mem hj))
theorem lfo_self {l : List It} {i : Nat} (hi : i < l.length) (hn : (l.map (·.id)).Nodup) : lfo l[i].id l = l[i].qt := by
  refine lfo_at hi (fun j hj hji e => ?_) rfl
  have := List.pairwise_iff_getElem.1 hn j i (by simpa using hj) (by simpa using hi) hji
  simp only [List.getElem_map] at this
  exact this e
theorem lfo_rml {s : Int} : ∀ {l : List It} {V : Int} {i : Nat} (hi : i < l.length), 0 ≤ V → (∀ x ∈ l, Ik s x) → (l.map (·.id)).Nodup → lfo l[i].id (rml V l) = l[i].qt - min l[i].qt (max 0 (V - tot (l.take i)))
  | x :: l, V, 0, hi, h0, hk, hn => by
    have hn2 := (List.nodup_cons.1 (by simpa using hn : (x.id :: l.map (·.id)).Nodup)).1
    have hq := (hk x (by simp)).q0
    show lfo x.id (if x.qt ≤ V then rml (V - x.qt) l else if V ≤ 0 then x :: l else lss x V :: l) = x.qt - min x.qt (max 0 (V - tot []))
    rw [tot_nil]
    by_cases h1 : x.qt ≤ V
    · rw [if_pos h1, lfo_gone (fun y hy e => by
        obtain ⟨z, hz, e2⟩ := rml_ids hy
        exact hn2 (List.mem_map.2 ⟨z, hz, e2.symm.trans e⟩))]
      omega
    · rw [if_neg h1]
      by_cases h2 : V ≤ 0
      · rw [if_pos h2]
        show (if x.id = x.id then x.qt else _) = _
        rw [if_pos rfl]
        omega
      · rw [if_neg h2]
        show (if x.id = x.id then x.qt - V else _) = _
        rw [if_pos rfl]
        omega
  | x :: l, V, i + 1, hi, h0, hk, hn => by
    have hn2 := List.nodup_cons.1 (by simpa using hn : (x.id :: l.map (·.id)).Nodup)
    have hi' : i < l.length := by simpa using hi
    have hq := (hk x (by simp)).q0
    have hz := (hk l[i] (by simp)).q0
    have ht := tot_nonneg (s := s) (l := l.take i) (fun y hy => hk y (by simp [List.mem_of_mem_take hy]))
    have hne : ¬ x.id = l[i].id := fun e => hn2.1 (List.mem_map.2 ⟨l[i], List.getElem_mem hi', e.symm⟩)
    show lfo l[i].id (if x.qt ≤ V then rml (V - x.qt) l else if V ≤ 0 then x :: l else lss x V :: l) = l[i].qt - min l[i].qt (max 0 (V - tot (x :: l.take i)))
    rw [tot_cons]
    by_cases h1 : x.qt ≤ V
    · rw [if_pos h1, lfo_rml (s := s) (l := l) (V := V - x.qt) (i := i) hi' (by omega) (fun y hy => hk y (by simp [hy])) hn2.2]
      omega
    · have hs := lfo_self hi' hn2.2
      have e : lfo l[i].id (if V ≤ 0 then x :: l else lss x V :: l) = l[i].qt := by
        split
        · show (if x.id = l[i].id then _ else lfo l[i].id l) = _
          rw [if_neg hne, hs]
        · show (if x.id = l[i].id then _ else lfo l[i].id l) = _
          rw [if_neg hne, hs]
      rw [if_neg h1, e]
      omega
end Go.Proofs.Ytknikhoobhgidaa
