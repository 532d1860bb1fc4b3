/-
  What is decoded is what was encoded: plain.
-/
import Derived.Test.YtolabllgnfpfaaaDoorTyM
import Derived.Test.YtolabllgnfpfaaaDoorTyH
namespace Go.Proofs.YtolabllgnfpfaaaDoor
open Go.RowKit Go.Deep Go.Lib Go.Shelf Go.Sort
set_option linter.unusedVariables false

theorem fieldE_inv {s : List UInt8} {x : Int × List UInt8} (h : fieldE s = (x, true)) : s = decDigits x.1.toNat ++ 61 :: x.2 := by
  unfold fieldE at h
  split at h
  · cases h
  · rename_i hc
    simp only [Prod.mk.injEq] at h
    obtain ⟨hx, hn⟩ := h
    obtain ⟨k, hk⟩ := Option.isSome_iff_exists.1 hn
    rw [hk] at hx
    obtain ⟨hd, _⟩ := num_some _ _ hk
    rw [← hx]
    simp only [Option.getD_some, Int.toNat_natCast]
    rw [hd]
    unfold Lib.cut at hc ⊢
    split
    · rcases Lib.index_spec s [61] with ⟨hm, _⟩ | ⟨i, hi, hl, ho, _⟩
      · rename_i h0; omega
      · rw [hi]
        simp only [Int.toNat_natCast, List.length_cons, List.length_nil, Nat.zero_add]
        unfold Lib.occAt at ho
        obtain ⟨z, hz⟩ := List.isPrefixOf_iff_prefix.1 ho
        have e1 : s.drop (i + 1) = z := by rw [← List.drop_drop, ← hz]; simp
        rw [e1]
        conv => lhs; rw [← List.take_append_drop i s, ← hz]
        simp
    · rename_i h0
      rw [if_neg h0] at hc
      simp at hc
/-- the fields behind the first one, turned back. -/
theorem bodyR_back (body kind : List UInt8) : ∀ (r cur pre : List UInt8) (a : List (Int × List UInt8)) (K : List UInt8) (L : List (Int × List UInt8)) (p : Nat), body = pre ++ (cur ++ r) → 0 < pre.length → (1 : UInt8) ∉ cur → (cur ++ r = [] ∨ (cur ++ r).getLast? = some 1) → a.length ≤ 64 → bodyR body r (pre.length + cur.length) pre.length kind a = (K, L, p, 0) →
    K = kind ∧ ∃ m, L = a ++ m ∧ cur ++ r = m.flatMap fieldB ∧ firstE a m = 0 ∧ a.length + m.length ≤ 64
  | [], cur, pre, a, K, L, p, hb, hp, h1, hlast, ha, h => by
    have hc : cur = [] := by
      rcases hlast with h | h
      · simpa using h
      · simp only [List.append_nil] at h
        exact absurd (List.mem_of_getLast? h) h1
    subst hc
    simp only [bodyR, Prod.mk.injEq] at h
    obtain ⟨rfl, rfl, _⟩ := h
    exact ⟨rfl, [], by simp, by simp, rfl, by simpa using ha⟩
  | c :: r, cur, pre, a, K, L, p, hb, hp, h1, hlast, ha, h => by
    simp only [bodyR] at h
    by_cases hc : c = 1
    · subst hc
      have hcut : (body.drop pre.length).take (pre.length + cur.length - pre.length) = cur := by
        rw [hb, List.drop_left' rfl, show pre.length + cur.length - pre.length = cur.length by omega, List.take_left' rfl]
      rw [if_neg (by simp), hcut] at h
      obtain ⟨x, ok, hf⟩ : ∃ x ok, fieldE cur = (x, ok) := ⟨_, _, rfl⟩
      rw [hf] at h
      simp only at h
      split at h
      · simp at h
      · rename_i hok
        have hok' : ok = true := by simpa using hok
        subst hok'
        rw [if_neg (by omega)] at h
        split at h
        · simp at h
        · rename_i h64
          split at h
          · rename_i hft
            simp only [Prod.mk.injEq] at h
            exact absurd h.2.2.2 hft
          · rename_i hft
            have hft' : fitsE a x = 0 := by simpa using hft
            have e : pre.length + cur.length + 1 = (pre ++ cur ++ [1]).length := by simp; omega
            have hl2 : ([] : List UInt8) ++ r = [] ∨ (([] : List UInt8) ++ r).getLast? = some 1 := by
              cases r with
              | nil => exact Or.inl rfl
              | cons d r =>
                refine Or.inr ?_
                rcases hlast with h | h
                · simp at h
                · simpa [List.getLast?_append] using h
            rw [e] at h
            obtain ⟨hK, m, hL, hm, hf2, hl3⟩ := bodyR_back body kind r [] (pre ++ cur ++ [1]) (a ++ [x]) K L p (by rw [hb]; simp) (by simp; omega) (by simp) hl2 (by simp; omega) (by simpa using h)
            refine ⟨hK, x :: m, by rw [hL]; simp, ?_, ?_, by simp at hl3 ⊢; omega⟩
            · rw [fieldE_inv hf, List.flatMap_cons, ← hm]
              simp [fieldB]
            · unfold firstE
              rw [if_pos hft', hf2]
    · rw [if_pos hc] at h
      obtain ⟨hK, m, hL, hm, hf2, hl3⟩ := bodyR_back body kind r (cur ++ [c]) pre a K L p (by rw [hb]; simp) hp (by simp; exact ⟨h1, fun e => hc e.symm⟩) (by simpa using hlast) ha (by rw [List.length_append, List.length_cons, List.length_nil, Nat.zero_add, ← Nat.add_assoc]; exact h)
      exact ⟨hK, m, hL, by rw [← hm]; simp, hf2, hl3⟩
end Go.Proofs.YtolabllgnfpfaaaDoor
