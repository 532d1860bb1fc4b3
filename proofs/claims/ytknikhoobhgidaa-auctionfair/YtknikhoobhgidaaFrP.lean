/-
  Who trades what, plain.
-/
import Derived.Test.YtknikhoobhgidaaFrC
namespace Go.Proofs.Ytknikhoobhgidaa
open Go.RowKit Go.Deep Go.Shelf
set_option linter.unusedVariables false
set_option linter.unusedSimpArgs false
/-- what an ID trades of a side, if so much is traded in its order. -/
def gtq (id : Int) : Int → List It → Int
  | _, [] => 0
  | V, x :: xs => (if x.id = id then min x.qt V else 0) + gtq id (V - min x.qt V) xs
theorem gtq_zero {s id : Int} : ∀ {l : List It}, (∀ x ∈ l, Ik s x) → gtq id 0 l = 0
  | [], _ => rfl
  | x :: l, h => by
    have hq := (h x (by simp)).q0
    unfold gtq
    rw [show min x.qt 0 = 0 by omega, Int.sub_zero, gtq_zero (s := s) (l := l) (fun y hy => h y (by simp [hy]))]
    split <;> rfl
theorem gtq_cut {s id V n : Int} {x : It} {xs : List It} (h : Ik s x) (h0 : 0 ≤ n) (hn : n ≤ x.qt) (hv : n ≤ V) : gtq id V (x :: xs) = (if x.id = id then n else 0) + gtq id (V - n) (cut x n xs) := by
  unfold cut
  by_cases e : x.qt = n
  · rw [if_pos e]
    show (if x.id = id then min x.qt V else 0) + gtq id (V - min x.qt V) xs = _
    rw [show min x.qt V = n by omega]
  · rw [if_neg e]
    show (if x.id = id then min x.qt V else 0) + gtq id (V - min x.qt V) xs = (if x.id = id then n else 0) + ((if x.id = id then min (x.qt - n) (V - n) else 0) + gtq id (V - n - min (x.qt - n) (V - n)) xs)
    rw [show V - n - min (x.qt - n) (V - n) = V - min x.qt V by omega]
    split <;> omega
theorem tqt_cons (id sd : Int) (f : Fi) (F : List Fi) : tqt id sd (f :: F) = (if fof id sd f = true then f.qt else 0) + tqt id sd F := by
  unfold tqt
  rw [List.filter_cons]
  split <;> simp
theorem trd_gtq {P : Int} (id : Int) : ∀ (f : Nat) (V : Int) (b s : List It), Sd 1 b → Sd 2 s → Vg V b s → b.length + s.length ≤ f → tqt id 1 (trd P f V b s).1 = gtq id V b ∧ tqt id 2 (trd P f V b s).1 = gtq id V s := by
  intro f
  induction f with
  | zero =>
    intro V b s hb hs hv hf
    obtain rfl : b = [] := List.length_eq_zero_iff.1 (by omega)
    obtain rfl : s = [] := List.length_eq_zero_iff.1 (by omega)
    exact ⟨rfl, rfl⟩
  | succ f ih =>
    intro V b s hb hs hv hf
    by_cases h0 : V = 0
    · subst h0
      rw [trd_zero, gtq_zero hb.ok, gtq_zero hs.ok]
      exact ⟨rfl, rfl⟩
    · have hvp : 0 < V := by have := hv.ge; omega
      obtain ⟨l1, l2⟩ := hv.pos hvp
      cases b with
      | nil => simp at l1
      | cons x xs =>
        cases s with
        | nil => simp at l2
        | cons y ys =>
          obtain ⟨hn, hv'⟩ := Vg.step hb hs hv hvp
          obtain ⟨f', ef, hf', et⟩ := trd_step (p := P) (f := f + 1) (left := V) (x := x) (y := y) (xs := xs) (ys := ys) hvp hf
          obtain rfl : f = f' := by omega
          rw [et]
          have q1 := (hb.ok x (by simp)).q0
          have q2 := (hs.ok y (by simp)).q0
          have c1 := hb.cut (n := min x.qt y.qt) (by omega) (by omega)
          have c2 := hs.cut (n := min x.qt y.qt) (by omega) (by omega)
          obtain ⟨a, b⟩ := ih _ _ _ c1 c2 hv' hf'
          rw [gtq_cut (hb.ok x (by simp)) (by omega) (by omega) hn, gtq_cut (hs.ok y (by simp)) (by omega) (by omega) hn, tqt_cons, tqt_cons, a, b]
          refine ⟨?_, ?_⟩
          · simp [fof]
          · simp [fof]
end Go.Proofs.Ytknikhoobhgidaa
