/-
  Buys and sells trade, plain.
-/
import Derived.Test.YtnmkfdndfhefiaaGreatAuU
namespace Go.Proofs.YtnmkfdndfhefiaaGreat
set_option linter.unusedVariables false
set_option linter.unusedSimpArgs false
/-- a fill. -/
structure Fi where
  bu : Int
  se : Int
  pr : Int
  qt : Int
deriving DecidableEq
/-- what is left of a side whose first one traded n. -/
def cut (x : It) (n : Int) (xs : List It) : List It := if x.qt = n then xs else lss x n :: xs
/-- the first buy and the first sell trade, until so much is traded. -/
def trd (p : Int) : Nat → Int → List It → List It → List Fi × List It × List It
  | 0, _, xs, ys => ([], xs, ys)
  | f + 1, left, x :: xs, y :: ys =>
    if left ≤ 0 then ([], x :: xs, y :: ys)
    else
      (⟨x.id, y.id, p, min x.qt y.qt⟩ :: (trd p f (left - min x.qt y.qt) (cut x (min x.qt y.qt) xs) (cut y (min x.qt y.qt) ys)).1,
        (trd p f (left - min x.qt y.qt) (cut x (min x.qt y.qt) xs) (cut y (min x.qt y.qt) ys)).2)
  | _ + 1, _, xs, ys => ([], xs, ys)
theorem trd_zero (p : Int) (f : Nat) (xs ys : List It) : trd p f 0 xs ys = ([], xs, ys) := by
  cases f with
  | zero => rfl
  | succ f => cases xs <;> cases ys <;> simp [trd]
theorem Ik.less {s : Int} {x : It} (h : Ik s x) {n : Int} (h0 : 0 ≤ n) (hn : n < x.qt) : Ik s (lss x n) := by
  obtain ⟨a, b, c, d, e, f, g⟩ := h
  exact ⟨a, b, c, d, e, by show 1 ≤ x.qt - n; omega, by show x.qt - n ≤ _; omega⟩
theorem ahd_less (x y : It) (n : Int) : ahd (lss x n) y = ahd x y ∧ ahd y (lss x n) = ahd y x := ⟨rfl, rfl⟩
theorem Sd.tail {s : Int} {x : It} {xs : List It} (h : Sd s (x :: xs)) : Sd s xs := ⟨fun y hy => h.ok y (by simp [hy]), (List.pairwise_cons.1 h.so).2, by have := h.ln; simp at this; omega⟩
theorem Sd.cut {s : Int} {x : It} {xs : List It} (h : Sd s (x :: xs)) {n : Int} (h0 : 0 ≤ n) (hn : n ≤ x.qt) : Sd s (Go.Proofs.YtnmkfdndfhefiaaGreat.cut x n xs) := by
  unfold Go.Proofs.YtnmkfdndfhefiaaGreat.cut
  split
  · exact h.tail
  · rename_i hne
    refine ⟨fun y hy => ?_, List.pairwise_cons.2 ⟨fun y hy => ?_, (List.pairwise_cons.1 h.so).2⟩, by have := h.ln; simpa using this⟩
    · rcases List.mem_cons.1 hy with rfl | hy
      · exact (h.ok x (by simp)).less h0 (by omega)
      · exact h.ok y (by simp [hy])
    · rw [(ahd_less x y n).2]
      exact (List.pairwise_cons.1 h.so).1 y hy
theorem tot_cut {x : It} {n : Int} {xs : List It} : tot (cut x n xs) = tot (x :: xs) - n := by
  unfold cut
  split
  · rw [tot_cons]; omega
  · rw [tot_cons, tot_cons]; show x.qt - n + _ = _; omega
/-- so much can be traded just so. -/
structure Vg (left : Int) (xs ys : List It) : Prop where
  ge : 0 ≤ left
  a : left ≤ tot xs
  b : left ≤ tot ys
  e : (∃ k, left = tot (xs.take k)) ∨ ∃ k, left = tot (ys.take k)
theorem take_cut {x : It} {n : Int} {xs : List It} {left : Int} (hl : 0 < left) (hn : n ≤ x.qt) (h : ∃ k, left = tot ((x :: xs).take k)) : ∃ k, left - n = tot ((cut x n xs).take k) := by
  obtain ⟨k, hk⟩ := h
  cases k with
  | zero => simp [tot] at hk; omega
  | succ k =>
    rw [List.take_succ_cons, tot_cons] at hk
    unfold cut
    split
    · exact ⟨k, by omega⟩
    · refine ⟨k + 1, ?_⟩
      rw [List.take_succ_cons, tot_cons]
      show left - n = x.qt - n + _
      omega
theorem tot_nonneg {s : Int} {l : List It} (h : ∀ x ∈ l, Ik s x) : 0 ≤ tot l := (tot_bound h).1
theorem Vg.pos {left : Int} {xs ys : List It} (h : Vg left xs ys) (hl : 0 < left) : 0 < xs.length ∧ 0 < ys.length := by
  constructor
  · cases xs with
    | nil => have := h.a; simp [tot] at this; omega
    | cons x xs => simp
  · cases ys with
    | nil => have := h.b; simp [tot] at this; omega
    | cons x xs => simp
theorem Vg.step {left : Int} {x y : It} {xs ys : List It} (hx : Sd 1 (x :: xs)) (hy : Sd 2 (y :: ys)) (h : Vg left (x :: xs) (y :: ys)) (hl : 0 < left) : min x.qt y.qt ≤ left ∧ Vg (left - min x.qt y.qt) (cut x (min x.qt y.qt) xs) (cut y (min x.qt y.qt) ys) := by
  have q1 := (hx.ok x (by simp)).q0
  have q2 := (hy.ok y (by simp)).q0
  obtain ⟨n, hn⟩ : ∃ n, min x.qt y.qt = n := ⟨_, rfl⟩
  rw [hn]
  have n1 : n ≤ x.qt := by omega
  have n2 : n ≤ y.qt := by omega
  have key : n ≤ left := by
    rcases h.e with ⟨k, hk⟩ | ⟨k, hk⟩
    · cases k with
      | zero => simp [tot] at hk; omega
      | succ k =>
        rw [List.take_succ_cons, tot_cons] at hk
        have := tot_nonneg (s := 1) (l := xs.take k) (fun z hz => hx.ok z (by simp [List.mem_of_mem_take hz]))
        omega
    · cases k with
      | zero => simp [tot] at hk; omega
      | succ k =>
        rw [List.take_succ_cons, tot_cons] at hk
        have := tot_nonneg (s := 2) (l := ys.take k) (fun z hz => hy.ok z (by simp [List.mem_of_mem_take hz]))
        omega
  refine ⟨key, ⟨by omega, by rw [tot_cut]; have := h.a; omega, by rw [tot_cut]; have := h.b; omega, ?_⟩⟩
  rcases h.e with he | he
  · exact .inl (take_cut hl n1 he)
  · exact .inr (take_cut hl n2 he)
theorem cut_len (x : It) (n : Int) (xs : List It) : (cut x n xs).length ≤ xs.length + 1 := by unfold cut; split <;> simp
end Go.Proofs.YtnmkfdndfhefiaaGreat
