/-
  Nothing of a quantity is lost, plainly.
-/
import Derived.Test.YtalgndgoedlpoaaRuKq
namespace Go.Proofs.Ytalgndgoedlpoaa
open Go.RowKit Go.Deep Go.Shelf
set_option linter.unusedVariables false
set_option linter.unusedSimpArgs false
/-- what became of an order. -/
structure Lf where
  id : Int
  qy : Int
  tr : Int
  ca : Int
  ky : Int
/-- where a life stands, or -1. -/
def lfi (id : Int) : List Lf → Int
  | [] => -1
  | x :: l => if x.id = id then 0 else if lfi id l = -1 then -1 else lfi id l + 1
theorem lfi_ge (id : Int) : ∀ l : List Lf, -1 ≤ lfi id l ∧ lfi id l < l.length := by
  intro l
  induction l with
  | nil => simp [lfi]
  | cons x l ih => unfold lfi; simp only [List.length_cons]; split; omega; split <;> omega
theorem lfi_none {id : Int} : ∀ {l : List Lf}, (∀ x ∈ l, x.id ≠ id) → lfi id l = -1
  | [], _ => rfl
  | x :: l, h => by
    unfold lfi
    rw [if_neg (h x (by simp)), if_pos (lfi_none (fun y hy => h y (by simp [hy])))]
theorem lfi_at {id : Int} : ∀ {l : List Lf}, id ∈ l.map (·.id) → ∃ (i : Nat) (h : i < l.length), lfi id l = i ∧ (l[i]).id = id
  | x :: l, h => by
    unfold lfi
    by_cases e : x.id = id
    · exact ⟨0, by simp, by rw [if_pos e]; rfl, e⟩
    · rw [if_neg e]
      simp only [List.map_cons, List.mem_cons] at h
      rcases h with h | h
      · exact absurd h.symm e
      · obtain ⟨i, hi, h1, h2⟩ := lfi_at h
        exact ⟨i + 1, by simpa using hi, by rw [if_neg (by omega), h1]; rfl, by simpa using h2⟩
/-- what is counted, event by event. -/
def Ct : List Lf → List Ev → List Lf → Prop
  | L, [], L' => L' = L
  | L, e :: es, L' =>
    (e.kd = 1 ∧ lfi e.id L = -1 ∧ Ct (L ++ [⟨e.id, e.qt, 0, 0, e.ty⟩]) es L') ∨
    (e.kd = 4 ∧ ∃ (i : Nat) (h : i < L.length), lfi e.id L = i ∧ e.qt ≠ 0 ∧ 0 ≤ (L[i]).tr ∧ 0 ≤ (L[i]).ca ∧ 0 ≤ e.qt ∧ (L[i]).tr + (L[i]).ca + e.qt ≤ (L[i]).qy ∧ (L[i]).qy < 4294967296 ∧ Ct (L.set i { L[i] with ca := (L[i]).ca + e.qt }) es L') ∨
    (e.kd = 3 ∧ ∃ (i j : Nat) (h : i < L.length) (k : j < L.length), lfi e.id L = i ∧ lfi e.ot L = j ∧ i ≠ j ∧ e.qt ≠ 0 ∧ 0 ≤ e.qt ∧ 0 ≤ (L[i]).tr ∧ 0 ≤ (L[i]).ca ∧ (L[i]).tr + (L[i]).ca + e.qt ≤ (L[i]).qy ∧ (L[i]).qy < 4294967296 ∧ 0 ≤ (L[j]).tr ∧ 0 ≤ (L[j]).ca ∧ (L[j]).tr + (L[j]).ca + e.qt ≤ (L[j]).qy ∧ (L[j]).qy < 4294967296 ∧ Ct ((L.set i { L[i] with tr := (L[i]).tr + e.qt }).set j { L[j] with tr := (L[j]).tr + e.qt }) es L') ∨
    ((e.kd = 2 ∨ e.kd = 5) ∧ Ct L es L')
theorem ct_app {L L1 L2 : List Lf} : ∀ {a b : List Ev}, Ct L a L1 → Ct L1 b L2 → Ct L (a ++ b) L2 := by
  intro a
  induction a generalizing L with
  | nil => intro b h k; cases h; exact k
  | cons e a ih =>
    intro b h k
    rcases h with ⟨h1, h2, h3⟩ | ⟨h1, i, hi, x1, x2, x3, x4, x5, x6, x7, h3⟩ | ⟨h1, i, j, hi, hj, x1, x2, x3, x4, x5, x6, x7, x8, x9, y1, y2, y3, y4, h3⟩ | ⟨h1, h3⟩
    · exact .inl ⟨h1, h2, ih h3 k⟩
    · exact .inr (.inl ⟨h1, i, hi, x1, x2, x3, x4, x5, x6, x7, ih h3 k⟩)
    · exact .inr (.inr (.inl ⟨h1, i, j, hi, hj, x1, x2, x3, x4, x5, x6, x7, x8, x9, y1, y2, y3, y4, ih h3 k⟩))
    · exact .inr (.inr (.inr ⟨h1, ih h3 k⟩))
/-- the lives, and what is left of each. -/
structure Qv (L : List Lf) (f : Int → Int) : Prop where
  nd : (L.map (·.id)).Nodup
  ok : ∀ x ∈ L, 0 ≤ x.tr ∧ 0 ≤ x.ca ∧ x.qy < 4294967296 ∧ x.tr + x.ca + f x.id = x.qy ∧ 0 ≤ f x.id
theorem Qv.congr {L : List Lf} {f g : Int → Int} (h : Qv L f) (e : ∀ i, g i = f i) : Qv L g := ⟨h.nd, fun x hx => by rw [e]; exact h.ok x hx⟩
theorem map_set_same {L : List Lf} {i : Nat} (hi : i < L.length) {y : Lf} (h : y.id = (L[i]).id) : (L.set i y).map (·.id) = L.map (·.id) := by
  apply List.ext_getElem
  · simp
  · intro k h1 h2
    simp only [List.getElem_map, List.getElem_set]
    split
    · rename_i e; subst e; exact h
    · rfl
theorem nd_get {L : List Lf} (h : (L.map (·.id)).Nodup) {i j : Nat} (hi : i < L.length) (hj : j < L.length) (e : (L[i]).id = (L[j]).id) : i = j := by
  rw [List.Nodup, List.pairwise_iff_getElem] at h
  rcases Nat.lt_trichotomy i j with k | k | k
  · have := h i j (by simpa using hi) (by simpa using hj) k
    rw [List.getElem_map, List.getElem_map] at this
    exact absurd e this
  · exact k
  · have := h j i (by simpa using hj) (by simpa using hi) k
    rw [List.getElem_map, List.getElem_map] at this
    exact absurd e.symm this
/-- so much less of one is left. -/
def mns (f : Int → Int) (id q i : Int) : Int := f i - if i = id then q else 0
/-- so much is cancelled. -/
theorem Qv.cancel {L : List Lf} {f : Int → Int} (h : Qv L f) {e : Ev} (ke : e.kd = 4) (hm : e.id ∈ L.map (·.id)) (q0 : 0 < e.qt) (q1 : e.qt ≤ f e.id) : ∃ L', Ct L [e] L' ∧ Qv L' (mns f e.id e.qt) ∧ L'.map (·.id) = L.map (·.id) := by
  obtain ⟨i, hi, e1, e2⟩ := lfi_at hm
  obtain ⟨a1, a2, a3, a4, a5⟩ := h.ok _ (List.getElem_mem hi)
  rw [e2] at a4 a5
  have hs := map_set_same hi (y := { L[i] with ca := (L[i]).ca + e.qt }) rfl
  refine ⟨L.set i { L[i] with ca := (L[i]).ca + e.qt }, .inr (.inl ⟨ke, i, hi, e1, by omega, a1, a2, by omega, by omega, a3, rfl⟩), ⟨by rw [hs]; exact h.nd, ?_⟩, hs⟩
  intro x hx
  obtain ⟨k, hk, rfl⟩ := List.mem_iff_getElem.1 hx
  have hk' : k < L.length := by simpa using hk
  rw [List.getElem_set]
  split
  · rename_i ek
    subst ek
    simp only [mns]
    rw [e2, if_pos rfl]
    exact ⟨a1, by omega, a3, by omega, by omega⟩
  · rename_i ek
    have : (L[k]).id ≠ e.id := fun c => ek (nd_get h.nd hi hk' (e2.trans c.symm))
    simp only [mns]
    rw [if_neg this]
    have := h.ok _ (List.getElem_mem hk')
    exact ⟨this.1, this.2.1, this.2.2.1, by omega, by omega⟩
/-- so much is traded. -/
theorem Qv.trade {L : List Lf} {f : Int → Int} (h : Qv L f) {e : Ev} (ke : e.kd = 3) (hm : e.id ∈ L.map (·.id)) (hm2 : e.ot ∈ L.map (·.id)) (ne : e.id ≠ e.ot) (q0 : 0 < e.qt) (q1 : e.qt ≤ f e.id) (q2 : e.qt ≤ f e.ot) : ∃ L', Ct L [e] L' ∧ Qv L' (mns (mns f e.id e.qt) e.ot e.qt) ∧ L'.map (·.id) = L.map (·.id) := by
  obtain ⟨i, hi, e1, e2⟩ := lfi_at hm
  obtain ⟨j, hj, e3, e4⟩ := lfi_at hm2
  obtain ⟨a1, a2, a3, a4, a5⟩ := h.ok _ (List.getElem_mem hi)
  obtain ⟨b1, b2, b3, b4, b5⟩ := h.ok _ (List.getElem_mem hj)
  rw [e2] at a4 a5
  rw [e4] at b4 b5
  have hij : i ≠ j := fun c => by subst c; exact ne (e2.symm.trans e4)
  have hs := map_set_same hi (y := { L[i] with tr := (L[i]).tr + e.qt }) rfl
  have hs2 : ((L.set i { L[i] with tr := (L[i]).tr + e.qt }).set j { L[j] with tr := (L[j]).tr + e.qt }).map (·.id) = L.map (·.id) := by
    rw [map_set_same (by simpa using hj) (by rw [List.getElem_set_ne hij]), hs]
  refine ⟨_, .inr (.inr (.inl ⟨ke, i, j, hi, hj, e1, e3, hij, by omega, by omega, a1, a2, by omega, a3, b1, b2, by omega, b3, rfl⟩)), ⟨by rw [hs2]; exact h.nd, ?_⟩, hs2⟩
  intro x hx
  obtain ⟨k, hk, rfl⟩ := List.mem_iff_getElem.1 hx
  have hk' : k < L.length := by simpa using hk
  rw [List.getElem_set, List.getElem_set]
  split
  · rename_i ek
    subst ek
    simp only [mns]
    rw [e4, if_neg (Ne.symm ne), if_pos rfl]
    exact ⟨by omega, b2, b3, by omega, by omega⟩
  · split
    · rename_i _ ek
      subst ek
      simp only [mns]
      rw [e2, if_pos rfl, if_neg ne]
      exact ⟨by omega, a2, a3, by omega, by omega⟩
    · rename_i e5 e6
      have n1 : (L[k]).id ≠ e.id := fun c => e6 (nd_get h.nd hi hk' (e2.trans c.symm))
      have n2 : (L[k]).id ≠ e.ot := fun c => e5 (nd_get h.nd hj hk' (e4.trans c.symm))
      simp only [mns]
      rw [if_neg n1, if_neg n2]
      have := h.ok _ (List.getElem_mem hk')
      exact ⟨this.1, this.2.1, this.2.2.1, by omega, by omega⟩
/-- what is left of an order in a list. -/
def rmL (id : Int) : LO → Int
  | [] => 0
  | y :: l => (if y.2.id = id then y.2.vi + y.2.hi else 0) + rmL id l
theorem rmL_app (id : Int) (a b : LO) : rmL id (a ++ b) = rmL id a + rmL id b := by
  induction a with
  | nil => simp [rmL]
  | cons y a ih => simp only [List.cons_append, rmL, ih]; omega
theorem rmL_perm {id : Int} {a b : LO} (h : a.Perm b) : rmL id a = rmL id b := by
  induction h with
  | nil => rfl
  | cons x _ ih => simp only [rmL, ih]
  | swap x y l => simp only [rmL]; omega
  | trans _ _ h1 h2 => exact h1.trans h2
theorem rmL_none {id : Int} : ∀ {l : LO}, (∀ y ∈ l, y.2.id ≠ id) → rmL id l = 0
  | [], _ => rfl
  | y :: l, h => by unfold rmL; rw [if_neg (h y (by simp)), rmL_none (fun z hz => h z (by simp [hz]))]; omega
theorem rmL_erase {id : Int} : ∀ {l : LO} {i : Nat} (hi : i < l.length), rmL id (l.eraseIdx i) = rmL id l - if (l[i]).2.id = id then (l[i]).2.vi + (l[i]).2.hi else 0
  | y :: l, 0, hi => by simp only [List.eraseIdx_cons_zero, rmL, List.getElem_cons_zero]; omega
  | y :: l, i + 1, hi => by
    simp only [List.eraseIdx_cons_succ, rmL, List.getElem_cons_succ]
    rw [rmL_erase (by simpa using hi)]
    omega
theorem rmL_trl {id S : Int} {f : Nat} {x : Or} {r : LO} {m : Int} (hm : m ≤ x.vi) : rmL id (trl S f x r m) = rmL id ((f, x) :: r) - if x.id = id then m else 0 := by
  unfold trl
  split
  · simp only [rmL, Or.less]; split <;> omega
  · split
    · simp only [rmL]; split <;> omega
    · rw [rmL_perm (agn_perm S _)]
      have : (x.less m).shn.vi + (x.less m).shn.hi = x.hi := by
        show (shw x.pk x.hi).1 + (shw x.pk x.hi).2 = x.hi
        unfold shw
        split <;> simp only <;> omega
      simp only [rmL]
      have e : (x.less m).shn.id = x.id := rfl
      rw [e, this]
      split <;> omega
def rm (b : Bs) (id : Int) : Int := rmL id b.l1 + rmL id b.l2
theorem rm_sl {b : Bs} {s id : Int} (hs : s = 1 ∨ s = 2) : rm b id = rmL id (b.sl s) + rmL id (b.sl (oth s)) := by
  rcases hs with rfl | rfl
  · rfl
  · show rmL id b.l1 + rmL id b.l2 = rmL id b.l2 + rmL id b.l1; omega
theorem rm_put {b : Bs} {s id : Int} (hs : s = 1 ∨ s = 2) {p : Option Addr} {c : Nat} {l : LO} : rm (b.put s p c l) id = rm b id - rmL id (b.sl s) + rmL id l := by
  rcases hs with rfl | rfl
  · show rmL id l + rmL id b.l2 = rmL id b.l1 + rmL id b.l2 - rmL id b.l1 + rmL id l; omega
  · show rmL id b.l1 + rmL id l = rmL id b.l1 + rmL id b.l2 - rmL id b.l2 + rmL id l; omega
end Go.Proofs.Ytalgndgoedlpoaa
