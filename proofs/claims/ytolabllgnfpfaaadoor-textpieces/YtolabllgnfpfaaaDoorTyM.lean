/-
  What is encoded is decoded: plain, the fields.
-/
import Derived.Test.YtolabllgnfpfaaaDoorTyL
namespace Go.Proofs.YtolabllgnfpfaaaDoor
open Go.RowKit Go.Deep Go.Lib Go.Shelf Go.Sort
set_option linter.unusedVariables false

theorem index_at : ∀ (ds v : List UInt8), (61 : UInt8) ∉ ds → Lib.index (ds ++ 61 :: v) [61] = (ds.length : Int)
  | [], v, _ => by simp [Lib.index]
  | d :: ds, v, h => by
    have h1 : ((61 : UInt8) == d) = false := by
      simp only [beq_eq_false_iff_ne, ne_eq]
      exact fun e => h (e ▸ List.mem_cons_self)
    have h2 := index_at ds v (fun hm => h (List.mem_cons_of_mem _ hm))
    rw [List.cons_append]
    unfold Lib.index
    rw [h2]
    have h3 : ((ds.length : Int) == -1) = false := by
      simp only [beq_eq_false_iff_ne, ne_eq]
      omega
    simp [List.isPrefixOf, h1, h3]
theorem cut_at (ds v : List UInt8) (h : (61 : UInt8) ∉ ds) : Lib.cut (ds ++ 61 :: v) [61] = (ds, v, true) := by
  unfold Lib.cut
  rw [index_at ds v h, if_pos (by omega)]
  simp
theorem nd_up (k : Nat) (h : ∀ n, n < 10 ^ k → nDigits n ≤ k) (hk : 1 ≤ k) : ∀ n, n < 10 ^ (k + 1) → nDigits n ≤ k + 1 := by
  intro n hn
  rw [Nat.pow_succ] at hn
  unfold nDigits
  split
  · omega
  · have := h (n / 10) (by omega)
    omega
theorem dec_four' (n : Nat) (h : n < 10000) : (decDigits n).length ≤ 4 := by
  rw [decDigits_length]
  have h1 : ∀ n, n < 10 ^ 1 → nDigits n ≤ 1 := fun n hn => by unfold nDigits; split <;> omega
  exact nd_up 3 (nd_up 2 (nd_up 1 h1 (by decide)) (by decide)) (by decide) n (by omega)
theorem dig_no {c : UInt8} (h : Dig c) : c ≠ 61 ∧ c ≠ 1 := by
  unfold Dig at h
  constructor
  · rintro rfl; revert h; decide
  · rintro rfl; revert h; decide
theorem fieldE_line (t : Nat) (ht : t < 10000) (v : List UInt8) : fieldE (decDigits t ++ 61 :: v) = (((t : Int), v), true) := by
  have hn : (61 : UInt8) ∉ decDigits t := fun hm => (dig_no (dec_dig t _ hm)).1 rfl
  have h4 := dec_four' t ht
  unfold fieldE
  rw [cut_at _ _ hn, if_neg (by simp; omega)]
  simp [num_dec t (by omega)]
/-- the fields behind the first one. -/
theorem bodyR_fields (body kind : List UInt8) : ∀ (r a : List (Int × List UInt8)) (pre : List UInt8), body = pre ++ r.flatMap fieldB → 0 < pre.length → firstE a r = 0 → a.length + r.length ≤ 64 → bodyR body (r.flatMap fieldB) pre.length pre.length kind a = (kind, a ++ r, 0, 0)
  | [], a, pre, _, _, _, _ => by simp [bodyR]
  | x :: r, a, pre, hb, hp, hf, hl => by
    have hx : fitsE a x = 0 ∧ firstE (a ++ [x]) r = 0 := by
      unfold firstE at hf
      split at hf
      · rename_i h; exact ⟨h, hf⟩
      · rename_i h; exact absurd hf h
    obtain ⟨⟨t0, t1, _⟩, hv⟩ := fits_tag hx.1
    obtain ⟨s, hs⟩ : ∃ s, decDigits x.1.toNat ++ 61 :: x.2 = s := ⟨_, rfl⟩
    have h1 : (1 : UInt8) ∉ s := by
      rw [← hs]
      intro hm
      rcases List.mem_append.1 hm with hm | hm
      · exact (dig_no (dec_dig _ _ hm)).2 rfl
      · rcases List.mem_cons.1 hm with hm | hm
        · revert hm; decide
        · have := hv.2 _ hm
          revert this; decide
    have e : (x :: r).flatMap fieldB = s ++ 1 :: r.flatMap fieldB := by rw [← hs]; simp [fieldB]
    have hfe : fieldE s = (x, true) := by
      rw [← hs, fieldE_line _ (by omega), show ((x.1.toNat : Nat) : Int) = x.1 by omega]
    have hcut : (body.drop pre.length).take (pre.length + s.length - pre.length) = s := by
      rw [hb, e, List.drop_left' rfl, show pre.length + s.length - pre.length = s.length by omega, List.take_left' rfl]
    have ih := bodyR_fields body kind r (a ++ [x]) (pre ++ s ++ [1]) (by rw [hb, e]; simp) (by simp; omega) hx.2 (by simp at hl ⊢; omega)
    rw [e, bodyR_by _ _ _ _ _ _ _ h1]
    simp only [bodyR]
    rw [hcut, hfe, if_neg (by simp), if_neg (by simp), if_neg (by omega), if_neg (by simp at hl; omega), if_neg (by simpa using hx.1)]
    simp only [List.length_append, List.length_cons, List.length_nil, Nat.zero_add] at ih
    rw [ih]
    simp
theorem bodyR_line (kind : List UInt8) (l : List (Int × List UInt8)) (hk : KindOk kind) (hl : l.length ≤ 64) (hf : firstE [] l = 0) : bodyR (bodyB kind l) (bodyB kind l) 0 0 [] [] = (kind, l, 0, 0) := by
  obtain ⟨s, hs⟩ : ∃ s, decDigits 35 ++ 61 :: kind = s := ⟨_, rfl⟩
  have h1 : (1 : UInt8) ∉ s := by
    rw [← hs]
    intro hm
    rcases List.mem_append.1 hm with hm | hm
    · exact (dig_no (dec_dig _ _ hm)).2 rfl
    · rcases List.mem_cons.1 hm with hm | hm
      · revert hm; decide
      · have := hk.2 _ hm
        revert this; decide
  have e : bodyB kind l = s ++ 1 :: l.flatMap fieldB := by rw [← hs]; simp [bodyB, fieldB]
  have hfe : fieldE s = ((35, kind), true) := by rw [← hs, fieldE_line 35 (by decide)]; rfl
  have hke : kindE (35, kind) = (kind, 0) := by unfold kindE; rw [if_pos ⟨rfl, hk⟩]
  have hcut : ((bodyB kind l).drop 0).take (0 + s.length - 0) = s := by
    rw [e, List.drop_zero, Nat.zero_add, Nat.sub_zero, List.take_left' rfl]
  have ih := bodyR_fields (bodyB kind l) kind l [] (s ++ [1]) (by rw [e]; simp) (by simp) hf (by simpa using hl)
  conv => lhs; arg 2; rw [e]
  rw [bodyR_by _ _ _ _ _ _ _ h1]
  simp only [bodyR]
  rw [hcut, hfe, if_neg (by simp), if_neg (by simp), if_pos trivial, hke, if_neg (by simp)]
  simp only [List.length_append, List.length_cons, List.length_nil, Nat.zero_add, List.nil_append] at ih ⊢
  exact ih
/-- what is encoded is decoded, whatever stands behind it. -/
theorem decR_line (kind : List UInt8) (l : List (Int × List UInt8)) (r : List UInt8) (h : encE kind l = 0) : decR (lineB kind l ++ r) = (kind, l, (lineB kind l).length, 0) := by
  unfold encE at h
  split at h
  · cases h
  · rename_i hk
    split at h
    · cases h
    · rename_i hl
      split at h
      · rename_i hf
        split at h
        · cases h
        · rename_i h2
          have hA : (aheadB kind l).length = 10 + (decDigits (bodyB kind l).length).length + 1 + (bodyB kind l).length := by rw [aheadB_len, decDigits_length]
          have hL : (lineB kind l).length = (aheadB kind l).length + 7 := by unfold lineB; rw [List.length_append, trailB_len]
          have hb : ((lineB kind l ++ r).drop (10 + (decDigits (bodyB kind l).length).length + 1)).take ((aheadB kind l).length - (10 + (decDigits (bodyB kind l).length).length + 1)) = bodyB kind l := by
            have e1 : lineB kind l ++ r = (headB (bodyB kind l).length ++ [1]) ++ (bodyB kind l ++ (trailB (aheadB kind l) ++ r)) := by
              unfold lineB
              conv => lhs; arg 1; arg 1; unfold aheadB
              simp
            rw [e1, List.drop_left' (by simp [headB]; omega), List.take_left' (by omega)]
          unfold decR
          rw [outE_line kind l r (by omega)]
          simp only
          rw [hb, bodyR_line kind l (by simpa using hk) (by omega) hf, if_neg (by simp), if_neg (by simp), hL]
      · rename_i hf; exact absurd h hf
end Go.Proofs.YtolabllgnfpfaaaDoor
