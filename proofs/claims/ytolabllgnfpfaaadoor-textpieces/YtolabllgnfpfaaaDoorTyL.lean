/-
  What is encoded is decoded: plain, first part.
-/
import Derived.Test.YtolabllgnfpfaaaDoorTyG
import Derived.Test.YtolabllgnfpfaaaDoorTxS
namespace Go.Proofs.YtolabllgnfpfaaaDoor
open Go.RowKit Go.Deep Go.Lib Go.Shelf Go.Sort
set_option linter.unusedVariables false

theorem digN_line : ∀ (ds pre r : List UInt8) (c : UInt8) (k : Nat), (∀ d ∈ ds, Dig d) → ¬ Dig c → ds.length < k → digN (pre ++ (ds ++ c :: r)) pre.length k = pre.length + ds.length
  | [], pre, r, c, 0, _, _, hk => by simp at hk
  | [], pre, r, c, k + 1, _, hc, _ => by simp [digN, hc]
  | d :: ds, pre, r, c, 0, _, _, hk => by simp at hk
  | d :: ds, pre, r, c, k + 1, hd, hc, hk => by
    have h := digN_line ds (pre ++ [d]) r c k (fun x hx => hd x (List.mem_cons_of_mem _ hx)) hc (by simpa using hk)
    have e : pre ++ (d :: ds ++ c :: r) = pre ++ [d] ++ (ds ++ c :: r) := by simp
    have e0 : (pre ++ (d :: ds ++ c :: r))[pre.length]? = some d := by simp
    unfold digN
    rw [e0]
    simp only [if_pos (hd d List.mem_cons_self)]
    rw [e]
    rw [List.length_append] at h
    simp only [List.length_cons, List.length_nil] at h ⊢
    rw [show pre.length + (0 + 1) = pre.length + 1 by omega] at h
    rw [h]
    omega
theorem begE_line (r : List UInt8) : begE ([56, 61, 66, 82, 83, 46, 49, 1, 57, 61] ++ r) 0 10 = (0, 0) := by
  simp [begE, beg]
theorem dec_four (n : Nat) (h : n < 2048) : (decDigits n).length ≤ 4 := by
  have : ∀ n : Fin 2048, (decDigits n.1).length ≤ 4 := by decide +kernel
  exact this ⟨n, h⟩
theorem not_dig_one : ¬ Dig (1 : UInt8) := by unfold Dig; decide
theorem lenE_line (n : Nat) (r : List UInt8) (h : 10 + (decDigits n).length + 1 + n + 7 ≤ 2048) :
    lenE ([56, 61, 66, 82, 83, 46, 49, 1, 57, 61] ++ (decDigits n ++ 1 :: r)) = ((10 + (decDigits n).length + 1, 10 + (decDigits n).length + 1 + n), 0, 0) := by
  have h4 := dec_four n (by omega)
  have hd := digN_line (decDigits n) [] r 1 5 (dec_dig n) not_dig_one (by omega)
  simp only [List.nil_append, List.length_nil, Nat.zero_add] at hd
  have e : ([56, 61, 66, 82, 83, 46, 49, 1, 57, 61] ++ (decDigits n ++ 1 :: r)).drop 10 = decDigits n ++ 1 :: r := by simp
  have el : ([56, 61, 66, 82, 83, 46, 49, 1, 57, 61] ++ (decDigits n ++ 1 :: r)).length = 10 + ((decDigits n).length + (r.length + 1)) := by simp; omega
  have e1 : ([56, 61, 66, 82, 83, 46, 49, 1, 57, 61] ++ (decDigits n ++ 1 :: r))[10 + (decDigits n).length]? = some (1 : UInt8) := by
    rw [List.getElem?_append_right (by simp)]
    simp
  unfold lenE
  rw [e, hd, el, e1, List.take_left' rfl, num_dec n (by omega)]
  rw [if_neg (by omega)]
  simp only
  rw [if_neg (by rintro (h | h); omega; exact h rfl), if_neg (by omega)]
/-- bytes that are no mark are gone by. -/
theorem bodyR_by (body : List UInt8) : ∀ (s r : List UInt8) (i g : Nat) (kind : List UInt8) (l : List (Int × List UInt8)), (1 : UInt8) ∉ s → bodyR body (s ++ r) i g kind l = bodyR body r (i + s.length) g kind l
  | [], r, i, g, kind, l, _ => by simp
  | c :: s, r, i, g, kind, l, h => by
    have hc : c ≠ 1 := fun e => h (e ▸ List.mem_cons_self)
    have h2 := bodyR_by body s r (i + 1) g kind l (fun hm => h (List.mem_cons_of_mem _ hm))
    rw [List.cons_append]
    simp only [bodyR]
    rw [if_pos hc, h2, List.length_cons, show i + 1 + s.length = i + (s.length + 1) by omega]
theorem flat_last : ∀ (l : List (Int × List UInt8)) (b : List UInt8), ∃ b', (b ++ [1]) ++ l.flatMap fieldB = b' ++ [1]
  | [], b => ⟨b, by simp⟩
  | x :: l, b => by
    obtain ⟨b', h⟩ := flat_last l (b ++ [1] ++ decDigits x.1.toNat ++ 61 :: x.2)
    refine ⟨b', ?_⟩
    rw [← h]
    simp [fieldB]
theorem body_last (kind : List UInt8) (l : List (Int × List UInt8)) : ∃ b, bodyB kind l = b ++ [1] := by
  obtain ⟨b, h⟩ := flat_last l (decDigits 35 ++ 61 :: kind)
  refine ⟨b, ?_⟩
  rw [← h]
  simp [bodyB, fieldB]
theorem trail_ok (y : List UInt8) : TrailOk (trailB y) := by
  have hs := sumB_lt y
  unfold trailB
  rw [three_plain _ hs]
  intro i h
  have d0 := (dig_of (sumB y / 100) (by omega)).1
  have d1 := (dig_of (sumB y / 10 % 10) (by omega)).1
  have d2 := (dig_of (sumB y % 10) (by omega)).1
  match i, h with
  | 0, _ => exact Or.inr rfl
  | 1, _ => exact Or.inr rfl
  | 2, _ => exact Or.inr rfl
  | 3, _ => exact Or.inl ⟨by decide, by decide, d0⟩
  | 4, _ => exact Or.inl ⟨by decide, by decide, d1⟩
  | 5, _ => exact Or.inl ⟨by decide, by decide, d2⟩
  | 6, _ => exact Or.inr rfl
  | (i + 7), h => exact absurd h (by simp)
/-- what is found of a line, whatever stands behind it. -/
theorem outE_line (kind : List UInt8) (l : List (Int × List UInt8)) (r : List UInt8) (h : (lineB kind l).length ≤ 2048) :
    outE (lineB kind l ++ r) = ((10 + (decDigits (bodyB kind l).length).length + 1, (aheadB kind l).length), 0, 0) := by
  have h7 := trailB_len (aheadB kind l)
  have hA : (aheadB kind l).length = 10 + (decDigits (bodyB kind l).length).length + 1 + (bodyB kind l).length := by rw [aheadB_len, decDigits_length]
  have hL : (lineB kind l).length = (aheadB kind l).length + 7 := by unfold lineB; rw [List.length_append, h7]
  have e1 : lineB kind l ++ r = [56, 61, 66, 82, 83, 46, 49, 1, 57, 61] ++ (decDigits (bodyB kind l).length ++ 1 :: (bodyB kind l ++ (trailB (aheadB kind l) ++ r))) := by
    unfold lineB
    conv => lhs; arg 1; arg 1; unfold aheadB headB
    simp
  have e2 : lineB kind l ++ r = aheadB kind l ++ (trailB (aheadB kind l) ++ r) := by unfold lineB; simp
  have hlen := lenE_line (bodyB kind l).length (bodyB kind l ++ (trailB (aheadB kind l) ++ r)) (by omega)
  rw [← e1, ← hA] at hlen
  obtain ⟨b, hb⟩ := body_last kind l
  have hbn : 0 < (bodyB kind l).length := by rw [hb]; simp
  have hlast : (lineB kind l ++ r)[(aheadB kind l).length - 1]? = some 1 := by
    have e3 : aheadB kind l = headB (bodyB kind l).length ++ [1] ++ b ++ [1] := by
      conv => lhs; unfold aheadB; arg 2; rw [hb]
      simp
    obtain ⟨a, ha⟩ : ∃ a, headB (bodyB kind l).length ++ [1] ++ b = a := ⟨_, rfl⟩
    rw [ha] at e3
    rw [e2, e3]
    simp
  have htk : ((lineB kind l ++ r).drop (aheadB kind l).length).take 7 = trailB (aheadB kind l) := by
    rw [e2, List.drop_left' rfl, List.take_left' h7]
  have hta : (lineB kind l ++ r).take (aheadB kind l).length = aheadB kind l := by rw [e2, List.take_left' rfl]
  unfold outE
  rw [hlen]
  simp only
  rw [htk, hta, hlast]
  have hbg : begE (lineB kind l ++ r) 0 10 = (0, 0) := by rw [e1]; exact begE_line _
  rw [hbg]
  have hfl : (lineB kind l ++ r).length = (aheadB kind l).length + 7 + r.length := by rw [List.length_append, hL]
  rw [if_neg (by simp), if_neg (by simp), if_neg (by omega), if_neg (by rintro (h | h | h); exact h (trail_ok _); omega; exact h rfl), if_neg (by simp)]
end Go.Proofs.YtolabllgnfpfaaaDoor
