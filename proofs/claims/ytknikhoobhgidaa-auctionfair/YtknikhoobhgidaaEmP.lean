/-
  Behind an uncross nothing more can be traded, plain.
-/
import Derived.Test.YtknikhoobhgidaaMsA
namespace Go.Proofs.Ytknikhoobhgidaa
open Go.RowKit Go.Deep Go.Shelf
set_option linter.unusedVariables false
set_option linter.unusedSimpArgs false
theorem wd_cons {s p : Int} {x : It} {xs : List It} (h : Sd s (x :: xs)) : wd p (x :: xs) = if acc p x = true then x.qt + wd p xs else 0 := by
  rw [wd_filter h, List.filter_cons]
  split
  · rw [tot_cons, wd_filter h.tail]
  · rename_i hx
    have : xs.filter (fun y => acc p y) = [] := List.filter_eq_nil_iff.2 (fun y hy e => hx (acc_up (h.ok x (by simp)) (h.ok y (by simp [hy])) ((List.pairwise_cons.1 h.so).1 y hy) e))
    rw [this]
    rfl
theorem wd_ge {s p : Int} {l : List It} (h : Sd s l) : 0 ≤ wd p l := (wd_bound h).1
theorem wd_cut {s p : Int} {x : It} {xs : List It} {n : Int} (h : Sd s (x :: xs)) (h0 : 0 ≤ n) (hn : n ≤ x.qt) : wd p (cut x n xs) = max 0 (wd p (x :: xs) - n) := by
  have hc := h.cut h0 hn
  rw [wd_cons h]
  have h1 := wd_ge (p := p) h.tail
  unfold Go.Proofs.Ytknikhoobhgidaa.cut at hc ⊢
  by_cases e : x.qt = n
  · rw [if_pos e]
    by_cases ha : acc p x = true
    · rw [if_pos ha]; omega
    · rw [if_neg ha]
      have : wd p xs = 0 := by
        rw [wd_filter h.tail]
        have : xs.filter (fun y => acc p y) = [] := List.filter_eq_nil_iff.2 (fun y hy e => ha (acc_up (h.ok x (by simp)) (h.ok y (by simp [hy])) ((List.pairwise_cons.1 h.so).1 y hy) e))
        rw [this]
        rfl
      omega
  · rw [if_neg e] at hc ⊢
    rw [wd_cons hc]
    have e2 : acc p (lss x n) = acc p x := rfl
    have e3 : (lss x n).qt = x.qt - n := rfl
    rw [e2, e3]
    by_cases ha : acc p x = true
    · rw [if_pos ha, if_pos ha]; omega
    · rw [if_neg ha, if_neg ha]; omega
theorem trd_wd {P : Int} (p : Int) : ∀ (f : Nat) (V : Int) (b s : List It), Sd 1 b → Sd 2 s → Vg V b s → b.length + s.length ≤ f → wd p (trd P f V b s).2.1 = max 0 (wd p b - V) ∧ wd p (trd P f V b s).2.2 = max 0 (wd p s - V) := by
  intro f
  induction f with
  | zero =>
    intro V b s hb hs hv hf
    obtain rfl : b = [] := List.length_eq_zero_iff.1 (by omega)
    obtain rfl : s = [] := List.length_eq_zero_iff.1 (by omega)
    have h1 := hv.ge
    have e0 : wd p [] = 0 := rfl
    show wd p [] = _ ∧ wd p [] = _
    rw [e0]
    omega
  | succ f ih =>
    intro V b s hb hs hv hf
    have h1 := wd_ge (p := p) hb
    have h2 := wd_ge (p := p) hs
    by_cases h0 : V = 0
    · subst h0
      rw [trd_zero]
      show wd p b = _ ∧ wd p s = _
      omega
    · have hvp : 0 < V := by have := hv.ge; omega
      obtain ⟨l1, l2⟩ := hv.pos hvp
      cases b with
      | nil => simp at l1
      | cons x xs =>
        cases s with
        | nil => simp at l2
        | cons y ys =>
          obtain ⟨hn, hv'⟩ := Vg.step hb hs hv hvp
          obtain ⟨f', ef, hf', et⟩ := trd_step (p := P) (f := f + 1) (left := V) (x := x) (y := y) (xs := xs) (ys := ys) hvp hf
          obtain rfl : f = f' := by omega
          rw [et]
          have q1 := (hb.ok x (by simp)).q0
          have q2 := (hs.ok y (by simp)).q0
          have c1 := hb.cut (n := min x.qt y.qt) (by omega) (by omega)
          have c2 := hs.cut (n := min x.qt y.qt) (by omega) (by omega)
          obtain ⟨a, b⟩ := ih _ _ _ c1 c2 hv' hf'
          rw [wd_cut hb (by omega) (by omega)] at a
          rw [wd_cut hs (by omega) (by omega)] at b
          show wd p (trd P f (V - min x.qt y.qt) (cut x (min x.qt y.qt) xs) (cut y (min x.qt y.qt) ys)).2.1 = _ ∧ wd p (trd P f (V - min x.qt y.qt) (cut x (min x.qt y.qt) xs) (cut y (min x.qt y.qt) ys)).2.2 = _
          rw [a, b]
          omega
/-- what is left behind an uncross. -/
def lft (r : Int) (b s : List It) : List It × List It := match quo r b s with
  | none => (b, s)
  | some z => (trd z.pr (b.length + s.length) z.vo b s).2
theorem lft_zero {r : Int} {b s : List It} (hb : Sd 1 b) (hs : Sd 2 s) (p : Int) : min (wd p (lft r b s).1) (wd p (lft r b s).2) ≤ 0 := by
  have hm := quo_most (r := r) hb hs p
  unfold mvo at hm
  unfold lft
  cases hq : quo r b s with
  | none => rw [hq] at hm; exact hm
  | some z =>
    rw [hq] at hm
    obtain ⟨a, b⟩ := trd_wd (P := z.pr) p (b.length + s.length) z.vo b s hb hs (quo_vg hb hs hq) (Nat.le_refl _)
    show min (wd p (trd z.pr _ z.vo _ s).2.1) (wd p (trd z.pr _ z.vo _ s).2.2) ≤ 0
    rw [a, b]
    simp only at hm
    omega
theorem quo_none {r : Int} {b s : List It} (h : ∀ p, min (wd p b) (wd p s) ≤ 0) (hb : Sd 1 b) (hs : Sd 2 s) : quo r b s = none := by
  cases hq : quo r b s with
  | none => rfl
  | some z =>
    obtain ⟨p, _, k, hz, _, hne⟩ := quo_at hq
    have h1 := h p
    have h2 := wd_ge (p := p) hb
    have h3 := wd_ge (p := p) hs
    have e : z.vo = min (wd p b) (wd p s) := by rw [hz]; exact qAt_vo
    omega
end Go.Proofs.Ytknikhoobhgidaa
