/-
  Interests, plain: who stands ahead, who would trade, how much.
-/
import Derived.Test.YtknikhoobhgidaaAuA
namespace Go.Proofs.Ytknikhoobhgidaa
set_option linter.unusedVariables false
set_option linter.unusedSimpArgs false
/-- an interest. -/
structure It where
  id : Int
  mb : Int
  sd : Int
  ty : Int
  pr : Int
  qt : Int
deriving DecidableEq
/-- one stands ahead of another one of its side. -/
def ahd (i o : It) : Bool := if i.ty = o.ty then (if i.sd = 1 then decide (o.pr < i.pr) else decide (i.pr < o.pr)) else i.ty == 2
/-- it would trade at a price. -/
def acc (p : Int) (i : It) : Bool := if i.ty = 2 then true else if i.sd = 1 then decide (p ≤ i.pr) else decide (i.pr ≤ p)
/-- an interest of a side that may stand. -/
structure Ik (s : Int) (x : It) : Prop where
  sd : x.sd = s
  ty : x.ty = 1 ∨ x.ty = 2
  p0 : 0 ≤ x.pr
  p1 : x.pr < 262144
  mz : x.ty = 2 → x.pr = 0
  q0 : 1 ≤ x.qt
  q1 : x.qt ≤ 4294967295
/-- a side in its priority. -/
structure Sd (s : Int) (l : List It) : Prop where
  ok : ∀ x ∈ l, Ik s x
  so : l.Pairwise fun a b => ahd b a = false
  ln : l.length ≤ 4096
theorem Sd.nil (s : Int) : Sd s [] := ⟨by simp, .nil, by simp⟩
theorem ahd_up {s : Int} {x a b : It} (hx : Ik s x) (ha : Ik s a) (hb : Ik s b) (h : ahd x a = true) (k : ahd b a = false) : ahd x b = true := by
  obtain ⟨x1, x2, _, _, x3, _, _⟩ := hx
  obtain ⟨a1, a2, _, _, a3, _, _⟩ := ha
  obtain ⟨b1, b2, _, _, b3, _, _⟩ := hb
  unfold ahd at h k ⊢
  rw [x1] at h ⊢
  rw [b1] at k
  rcases x2 with x2 | x2 <;> rcases a2 with a2 | a2 <;> rcases b2 with b2 | b2 <;> rw [x2, a2] at h <;> rw [b2, a2] at k <;> rw [x2, b2] <;> (by_cases hs : s = 1) <;> simp [hs] at h k ⊢ <;> (have := x3; have := a3; have := b3; omega)
theorem ahd_asym {s : Int} {x a : It} (hx : Ik s x) (ha : Ik s a) (h : ahd x a = true) : ahd a x = false := by
  obtain ⟨x1, x2, _, _, x3, _, _⟩ := hx
  obtain ⟨a1, a2, _, _, a3, _, _⟩ := ha
  unfold ahd at h ⊢
  rw [x1] at h
  rw [a1]
  rcases x2 with x2 | x2 <;> rcases a2 with a2 | a2 <;> rw [x2, a2] at h <;> rw [a2, x2] <;> (by_cases hs : s = 1) <;> simp [hs] at h ⊢ <;> omega
theorem acc_up {s p : Int} {a b : It} (ha : Ik s a) (hb : Ik s b) (k : ahd b a = false) (h : acc p b = true) : acc p a = true := by
  obtain ⟨a1, a2, _, _, a3, _, _⟩ := ha
  obtain ⟨b1, b2, _, _, b3, _, _⟩ := hb
  unfold ahd at k
  unfold acc at h ⊢
  rw [b1] at k h
  rw [a1]
  rcases a2 with a2 | a2 <;> rcases b2 with b2 | b2 <;> rw [b2, a2] at k <;> rw [b2] at h <;> rw [a2] <;> (by_cases hs : s = 1) <;> simp [hs] at h k ⊢ <;> omega
theorem Sd.at' {s : Int} {l : List It} (h : Sd s l) {i j : Nat} (hi : i < l.length) (hj : j < l.length) (hij : i < j) : ahd l[j] l[i] = false := List.pairwise_iff_getElem.1 h.so i j hi hj hij
theorem Sd.ik {s : Int} {l : List It} (h : Sd s l) {i : Nat} (hi : i < l.length) : Ik s l[i] := h.ok _ (List.getElem_mem hi)
theorem Sd.up {s : Int} {l : List It} (h : Sd s l) {x : It} (hx : Ik s x) {i j : Nat} (hi : i < l.length) (hj : j < l.length) (hij : i ≤ j) (ht : ahd x l[i] = true) : ahd x l[j] = true := by
  by_cases e : i = j
  · subst e; exact ht
  · exact ahd_up hx (h.ik hi) (h.ik hj) ht (h.at' hi hj (by omega))
theorem Sd.acc {s p : Int} {l : List It} (h : Sd s l) {i j : Nat} (hi : i < l.length) (hj : j < l.length) (hij : i ≤ j) (ht : Go.Proofs.Ytknikhoobhgidaa.acc p l[j] = true) : Go.Proofs.Ytknikhoobhgidaa.acc p l[i] = true := by
  by_cases e : i = j
  · subst e; exact ht
  · exact acc_up (h.ik hi) (h.ik hj) (h.at' hi hj (by omega)) ht
/-- where an interest is put. -/
def bh (x : It) (l : List It) : Nat := (l.takeWhile fun y => !ahd x y).length
/-- how many would trade. -/
def wl (p : Int) (l : List It) : Nat := (l.takeWhile fun y => acc p y).length
theorem tw_le {α : Type} (f : α → Bool) (l : List α) : (l.takeWhile f).length ≤ l.length := (List.takeWhile_prefix f (l := l)).length_le
theorem tw_eq {α : Type} {f : α → Bool} : ∀ {l : List α} {i : Nat}, i ≤ l.length → (∀ k (hk : k < l.length), k < i → f l[k] = true) → (∀ (hk : i < l.length), f l[i] = false) → (l.takeWhile f).length = i
  | [], i, hi, _, _ => by simp at hi; subst hi; rfl
  | x :: l, 0, hi, _, h2 => by
    have := h2 (by simp)
    simp only [List.getElem_cons_zero] at this
    simp [List.takeWhile_cons, this]
  | x :: l, i + 1, hi, h1, h2 => by
    have a := h1 0 (by simp) (by omega)
    simp only [List.getElem_cons_zero] at a
    have e := tw_eq (f := f) (l := l) (i := i) (by simpa using hi) (fun k hk hki => by have := h1 (k + 1) (by simpa using hk) (by omega); simpa using this) (fun hk => by have := h2 (by simpa using hk); simpa using this)
    simp [List.takeWhile_cons, a, e]
theorem tw_lt {α : Type} {f : α → Bool} : ∀ {l : List α} {k : Nat} (hk : k < l.length), k < (l.takeWhile f).length → f l[k] = true
  | [], k, hk, _ => by simp at hk
  | x :: l, k, hk, h => by
    rw [List.takeWhile_cons] at h
    by_cases hx : f x = true
    · rw [if_pos hx] at h
      cases k with
      | zero => exact hx
      | succ k => simpa using tw_lt (l := l) (by simpa using hk) (by simpa using h)
    · rw [if_neg hx] at h; simp at h
theorem tw_at {α : Type} {f : α → Bool} : ∀ {l : List α} (hk : (l.takeWhile f).length < l.length), f (l[(l.takeWhile f).length]'hk) = false
  | [], hk => by simp at hk
  | x :: l, hk => by
    by_cases hx : f x = true
    · have e : ((x :: l).takeWhile f) = x :: l.takeWhile f := by rw [List.takeWhile_cons, if_pos hx]
      have := tw_at (f := f) (l := l) (by simpa [e] using hk)
      simp only [e, List.length_cons, List.getElem_cons_succ]
      exact this
    · have e : ((x :: l).takeWhile f) = [] := by rw [List.takeWhile_cons, if_neg hx]
      simp only [e, List.length_nil, List.getElem_cons_zero]
      simpa using hx
/-- an interest at a place. -/
def ins {α : Type} (i : Nat) (x : α) (l : List α) : List α := l.take i ++ x :: l.drop i
theorem ins_len {α : Type} {i : Nat} {x : α} {l : List α} (h : i ≤ l.length) : (ins i x l).length = l.length + 1 := by simp [ins]; omega
theorem ins_mem {α : Type} {i : Nat} {x y : α} {l : List α} : y ∈ ins i x l ↔ y = x ∨ y ∈ l := by
  unfold ins
  rw [List.mem_append, List.mem_cons]
  constructor
  · rintro (h | rfl | h)
    · exact .inr (List.mem_of_mem_take h)
    · exact .inl rfl
    · exact .inr (List.mem_of_mem_drop h)
  · rintro (rfl | h)
    · exact .inr (.inl rfl)
    · rw [← List.take_append_drop i l] at h
      rcases List.mem_append.1 h with h | h
      · exact .inl h
      · exact .inr (.inr h)
theorem ins_perm {α : Type} (i : Nat) (x : α) (l : List α) : (ins i x l).Perm (x :: l) := by
  unfold ins
  have := (List.perm_middle (a := x) (l₁ := l.take i) (l₂ := l.drop i))
  rw [List.take_append_drop] at this
  exact this
/-- a side with an interest more. -/
def ent (x : It) (l : List It) : List It := ins (bh x l) x l
theorem bh_le (x : It) (l : List It) : bh x l ≤ l.length := tw_le _ _
theorem Sd.ent {s : Int} {x : It} {l : List It} (h : Sd s l) (hx : Ik s x) (hl : l.length < 4096) : Sd s (Go.Proofs.Ytknikhoobhgidaa.ent x l) := by
  have hb := bh_le x l
  refine ⟨fun y hy => ?_, ?_, by unfold Go.Proofs.Ytknikhoobhgidaa.ent; rw [ins_len hb]; omega⟩
  · rcases ins_mem.1 hy with rfl | hy
    · exact hx
    · exact h.ok y hy
  · unfold Go.Proofs.Ytknikhoobhgidaa.ent ins
    have hso := h.so
    rw [← List.take_append_drop (bh x l) l] at hso
    obtain ⟨h1, h2, h3⟩ := List.pairwise_append.1 hso
    refine List.pairwise_append.2 ⟨h1, List.pairwise_cons.2 ⟨fun b hb' => ?_, h2⟩, fun a ha b hb' => ?_⟩
    · obtain ⟨k, hk, rfl⟩ := List.getElem_of_mem hb'
      rw [List.length_drop] at hk
      rw [List.getElem_drop]
      have hlt : bh x l < l.length := by omega
      have e1 : ahd x (l[bh x l]'hlt) = true := by
        have := tw_at (f := fun y => !ahd x y) (l := l) hlt
        simp only [Bool.not_eq_false'] at this
        exact this
      exact ahd_asym hx (h.ik (by omega)) (h.up hx hlt (by omega) (by omega) e1)
    · rcases List.mem_cons.1 hb' with rfl | hb'
      · obtain ⟨k, hk, rfl⟩ := List.getElem_of_mem ha
        rw [List.length_take] at hk
        rw [List.getElem_take]
        have := tw_lt (f := fun y => !ahd b y) (l := l) (k := k) (by omega) (by show k < bh b l; omega)
        simpa using this
      · exact h3 a ha b hb'
/-- how much interests have together. -/
def tot (l : List It) : Int := (l.map (·.qt)).sum
theorem tot_nil : tot [] = 0 := rfl
theorem tot_cons (x : It) (l : List It) : tot (x :: l) = x.qt + tot l := by simp [tot]
theorem tot_app (a b : List It) : tot (a ++ b) = tot a + tot b := by simp [tot]
theorem tot_bound {s : Int} : ∀ {l : List It}, (∀ x ∈ l, Ik s x) → 0 ≤ tot l ∧ tot l ≤ 4294967295 * l.length
  | [], _ => by simp [tot]
  | x :: l, h => by
    have := tot_bound (s := s) (l := l) (fun y hy => h y (by simp [hy]))
    have hx := h x (by simp)
    have := hx.q0
    have := hx.q1
    rw [tot_cons]
    simp only [List.length_cons]
    omega
/-- how much would be traded at a price. -/
def wd (p : Int) (l : List It) : Int := tot (l.take (wl p l))
theorem wd_filter {s p : Int} {l : List It} (h : Sd s l) : wd p l = tot (l.filter fun y => acc p y) := by
  unfold wd
  have hw : wl p l ≤ l.length := tw_le _ _
  have e : l.filter (fun y => acc p y) = l.take (wl p l) := by
    rw [show l.filter (fun y => acc p y) = (l.take (wl p l) ++ l.drop (wl p l)).filter (fun y => acc p y) by rw [List.take_append_drop], List.filter_append]
    have e1 : (l.take (wl p l)).filter (fun y => acc p y) = l.take (wl p l) := by
      rw [List.filter_eq_self]
      intro a ha
      obtain ⟨k, hk, rfl⟩ := List.getElem_of_mem ha
      rw [List.length_take] at hk
      rw [List.getElem_take]
      exact tw_lt (f := fun y => acc p y) (l := l) (k := k) (by omega) (by show k < wl p l; omega)
    have e2 : (l.drop (wl p l)).filter (fun y => acc p y) = [] := by
      rw [List.filter_eq_nil_iff]
      intro a ha hc
      obtain ⟨k, hk, rfl⟩ := List.getElem_of_mem ha
      rw [List.length_drop] at hk
      rw [List.getElem_drop] at hc
      have hlt : wl p l < l.length := by omega
      have e1 : acc p (l[wl p l]'hlt) = false := tw_at (f := fun y => acc p y) (l := l) hlt
      rw [h.acc hlt (by omega) (by omega) hc] at e1
      cases e1
    rw [e1, e2, List.append_nil]
  rw [e]
end Go.Proofs.Ytknikhoobhgidaa
