/-
  What is left of a side, plain; each one's part.
-/
import Derived.Test.YtknikhoobhgidaaFrP
namespace Go.Proofs.Ytknikhoobhgidaa
open Go.RowKit Go.Deep Go.Shelf
set_option linter.unusedVariables false
set_option linter.unusedSimpArgs false
/-- what is left of a side, if so much is traded in its order. -/
def rml : Int → List It → List It
  | _, [] => []
  | V, x :: xs => if x.qt ≤ V then rml (V - x.qt) xs else if V ≤ 0 then x :: xs else lss x V :: xs
theorem rml_zero {s : Int} {l : List It} (h : ∀ x ∈ l, Ik s x) : rml 0 l = l := by
  cases l with
  | nil => rfl
  | cons x l =>
    have := (h x (by simp)).q0
    show (if x.qt ≤ 0 then _ else if (0 : Int) ≤ 0 then x :: l else _) = _
    rw [if_neg (by omega), if_pos (by omega)]
theorem rml_cut {s V n : Int} {x : It} {xs : List It} (h : Ik s x) (h0 : 0 < n) (hn : n ≤ x.qt) (hv : n ≤ V) (ht : ∀ y ∈ xs, Ik s y) : rml V (x :: xs) = rml (V - n) (cut x n xs) := by
  unfold cut
  by_cases e : x.qt = n
  · rw [if_pos e]
    show (if x.qt ≤ V then rml (V - x.qt) xs else _) = _
    rw [if_pos (by omega), e]
  · rw [if_neg e]
    have e1 : (lss x n).qt = x.qt - n := rfl
    show (if x.qt ≤ V then rml (V - x.qt) xs else if V ≤ 0 then x :: xs else lss x V :: xs) = (if (lss x n).qt ≤ V - n then rml (V - n - (lss x n).qt) xs else if V - n ≤ 0 then lss x n :: xs else lss (lss x n) (V - n) :: xs)
    rw [e1]
    by_cases h1 : x.qt ≤ V
    · rw [if_pos h1, if_pos (by omega), show V - n - (x.qt - n) = V - x.qt by omega]
    · rw [if_neg h1, if_neg (by omega), if_neg (by omega)]
      by_cases h2 : V - n ≤ 0
      · rw [if_pos h2, show V = n by omega]
      · rw [if_neg h2]
        have : lss (lss x n) (V - n) = lss x V := by
          unfold lss
          simp only [It.mk.injEq, true_and]
          omega
        rw [this]
theorem trd_rml {P : Int} : ∀ (f : Nat) (V : Int) (b s : List It), Sd 1 b → Sd 2 s → Vg V b s → b.length + s.length ≤ f → (trd P f V b s).2.1 = rml V b ∧ (trd P f V b s).2.2 = rml V s := by
  intro f
  induction f with
  | zero =>
    intro V b s hb hs hv hf
    obtain rfl : b = [] := List.length_eq_zero_iff.1 (by omega)
    obtain rfl : s = [] := List.length_eq_zero_iff.1 (by omega)
    exact ⟨rfl, rfl⟩
  | succ f ih =>
    intro V b s hb hs hv hf
    by_cases h0 : V = 0
    · subst h0
      rw [trd_zero, rml_zero hb.ok, rml_zero hs.ok]
      exact ⟨rfl, rfl⟩
    · have hvp : 0 < V := by have := hv.ge; omega
      obtain ⟨l1, l2⟩ := hv.pos hvp
      cases b with
      | nil => simp at l1
      | cons x xs =>
        cases s with
        | nil => simp at l2
        | cons y ys =>
          obtain ⟨hn, hv'⟩ := Vg.step hb hs hv hvp
          obtain ⟨f', ef, hf', et⟩ := trd_step (p := P) (f := f + 1) (left := V) (x := x) (y := y) (xs := xs) (ys := ys) hvp hf
          obtain rfl : f = f' := by omega
          rw [et]
          have q1 := (hb.ok x (by simp)).q0
          have q2 := (hs.ok y (by simp)).q0
          have c1 := hb.cut (n := min x.qt y.qt) (by omega) (by omega)
          have c2 := hs.cut (n := min x.qt y.qt) (by omega) (by omega)
          obtain ⟨a, b⟩ := ih _ _ _ c1 c2 hv' hf'
          rw [rml_cut (hb.ok x (by simp)) (by omega) (by omega) hn hb.tail.ok, rml_cut (hs.ok y (by simp)) (by omega) (by omega) hn hs.tail.ok, ← a, ← b]
          exact ⟨rfl, rfl⟩
theorem gtq_gone {id : Int} : ∀ {l : List It} {V : Int}, (∀ x ∈ l, x.id ≠ id) → gtq id V l = 0
  | [], _, _ => rfl
  | x :: l, V, h => by
    unfold gtq
    rw [if_neg (h x (by simp)), gtq_gone (l := l) (fun y hy => h y (by simp [hy]))]
    rfl
/-- each one's part, in closed form. -/
theorem gtq_at {s : Int} : ∀ {l : List It} {V : Int} {i : Nat} (hi : i < l.length), 0 ≤ V → (∀ x ∈ l, Ik s x) → (l.map (·.id)).Nodup → gtq l[i].id V l = min l[i].qt (max 0 (V - tot (l.take i)))
  | x :: l, V, 0, hi, h0, hk, hn => by
    have hn2 := (List.nodup_cons.1 (by simpa using hn : (x.id :: l.map (·.id)).Nodup)).1
    show gtq x.id V (x :: l) = min x.qt (max 0 (V - tot []))
    unfold gtq
    rw [if_pos rfl, gtq_gone (fun y hy e => hn2 (List.mem_map.2 ⟨y, hy, e⟩)), tot_nil]
    omega
  | x :: l, V, i + 1, hi, h0, hk, hn => by
    have hn2 := List.nodup_cons.1 (by simpa using hn : (x.id :: l.map (·.id)).Nodup)
    have hi' : i < l.length := by simpa using hi
    have hq := (hk x (by simp)).q0
    have ih := gtq_at (s := s) (l := l) (V := V - min x.qt V) (i := i) hi' (by omega) (fun y hy => hk y (by simp [hy])) hn2.2
    have ht := tot_nonneg (s := s) (l := l.take i) (fun y hy => hk y (by simp [List.mem_of_mem_take hy]))
    have hne : ¬ x.id = l[i].id := fun e => hn2.1 (List.mem_map.2 ⟨l[i], List.getElem_mem hi', e.symm⟩)
    show gtq l[i].id V (x :: l) = min l[i].qt (max 0 (V - tot (x :: l.take i)))
    unfold gtq
    rw [if_neg hne, ih, tot_cons]
    omega
end Go.Proofs.Ytknikhoobhgidaa
