/-
  What is decoded is what was encoded: plain, the whole.
-/
import Derived.Test.YtolabllgnfpfaaaDoorTyN
namespace Go.Proofs.YtolabllgnfpfaaaDoor
open Go.RowKit Go.Deep Go.Lib Go.Shelf Go.Sort
set_option linter.unusedVariables false

theorem bodyR_back0 (body : List UInt8) (hlast : body.getLast? = some 1) : ∀ (r cur : List UInt8) (K : List UInt8) (L : List (Int × List UInt8)) (p : Nat), body = cur ++ r → (1 : UInt8) ∉ cur → bodyR body r cur.length 0 [] [] = (K, L, p, 0) →
    KindOk K ∧ body = bodyB K L ∧ firstE [] L = 0 ∧ L.length ≤ 64
  | [], cur, K, L, p, hb, h1, h => by
    rw [List.append_nil] at hb
    subst hb
    exact absurd (List.mem_of_getLast? hlast) h1
  | c :: r, cur, K, L, p, hb, h1, h => by
    simp only [bodyR] at h
    by_cases hc : c = 1
    · subst hc
      have hcut : (body.drop 0).take (cur.length - 0) = cur := by
        rw [hb, List.drop_zero, Nat.sub_zero, List.take_left' rfl]
      rw [if_neg (by simp), hcut] at h
      obtain ⟨x, ok, hf⟩ : ∃ x ok, fieldE cur = (x, ok) := ⟨_, _, rfl⟩
      rw [hf] at h
      simp only at h
      split at h
      · simp at h
      · rename_i hok
        have hok' : ok = true := by simpa using hok
        subst hok'
        rw [if_pos trivial] at h
        obtain ⟨k, e, hk⟩ : ∃ k e, kindE x = (k, e) := ⟨_, _, rfl⟩
        rw [hk] at h
        simp only at h
        split at h
        · rename_i hne
          simp only [Prod.mk.injEq] at h
          exact absurd h.2.2.2 hne
        · rename_i hne
          have he : e = 0 := by simpa using hne
          subst he
          unfold kindE at hk
          split at hk
          · rename_i hx
            simp only [Prod.mk.injEq] at hk
            obtain ⟨rfl, _⟩ := hk
            have e : cur.length + 1 = (cur ++ [1]).length := by simp
            rw [e] at h
            have hl2 : ([] : List UInt8) ++ r = [] ∨ (([] : List UInt8) ++ r).getLast? = some 1 := by
              cases r with
              | nil => exact Or.inl rfl
              | cons d r =>
                refine Or.inr ?_
                rw [hb] at hlast
                simpa [List.getLast?_append] using hlast
            obtain ⟨rfl, m, hL, hm, hf2, hl3⟩ := bodyR_back body x.2 r [] (cur ++ [1]) [] K L p (by rw [hb]; simp) (by simp) (by simp) hl2 (by simp) (by simpa using h)
            rw [List.nil_append] at hL hm
            subst hL
            refine ⟨hx.2, ?_, hf2, by simpa using hl3⟩
            rw [hb, fieldE_inv hf, hm, hx.1]
            simp [bodyB, fieldB]
          · simp at hk
    · rw [if_pos hc] at h
      exact bodyR_back0 body hlast r (cur ++ [c]) K L p (by rw [hb]; simp) (by simp; exact ⟨h1, fun e => hc e.symm⟩) (by rw [List.length_append, List.length_cons, List.length_nil, Nat.zero_add]; exact h)
theorem lenE_parts {b : List UInt8} {f t p : Nat} (h : lenE b = ((f, t), p, 0)) : ∃ d s, f = 10 + d + 1 ∧ t = f + s ∧ decDigits s = (b.drop 10).take d ∧ b[10 + d]? = some 1 := by
  unfold lenE at h
  split at h
  · simp at h
  · split at h
    · simp at h
    · rename_i s hs
      split at h
      · simp at h
      · rename_i hc
        split at h
        · simp at h
        · simp only [Prod.mk.injEq] at h
          refine ⟨digN (b.drop 10) 0 5, s, h.1.1.symm, by rw [← h.1.1, ← h.1.2], (num_some _ _ hs).1, ?_⟩
          rcases Classical.em (b[10 + digN (b.drop 10) 0 5]? = some 1) with h | h
          · exact h
          · exact absurd (Or.inr h) hc
theorem outE_parts {b : List UInt8} {f t p : Nat} (h : outE b = ((f, t), p, 0)) : (begE b 0 10).2 = 0 ∧ (∃ p', lenE b = ((f, t), p', 0)) ∧ b[t - 1]? = some 1 := by
  unfold outE at h
  split at h
  · rename_i hn; simp only [Prod.mk.injEq] at h; exact absurd h.2.2 hn
  · rename_i hb
    split at h
    · rename_i hn; simp only [Prod.mk.injEq] at h; exact absurd h.2.2 hn
    · rename_i hl
      split at h
      · simp at h
      · split at h
        · simp at h
        · rename_i hT
          split at h
          · simp at h
          · simp only [Prod.mk.injEq] at h
            rw [h.1] at hT
            refine ⟨by simpa using hb, ⟨(lenE b).2.1, ?_⟩, ?_⟩
            · rw [← h.1, ← show (lenE b).2.2 = 0 by simpa using hl]
            · rcases Classical.em (b[t - 1]? = some 1) with h | h
              · exact h
              · exact absurd (Or.inr (Or.inr h)) hT
/-- what is decoded is what was encoded. -/
theorem decR_back {b k : List UInt8} {m : List (Int × List UInt8)} {n : Nat} (h : decR b = (k, m, n, 0)) : 1 ≤ n ∧ n ≤ b.length ∧ encE k m = 0 ∧ lineB k m = b.take n := by
  unfold decR at h
  obtain ⟨f, t, p, e, ho⟩ : ∃ f t p e, outE b = ((f, t), p, e) := ⟨_, _, _, _, rfl⟩
  rw [ho] at h
  simp only at h
  split at h
  · rename_i hn; simp only [Prod.mk.injEq] at h; exact absurd h.2.2.2 hn
  · rename_i he
    have he0 : e = 0 := by simpa using he
    subst he0
    split at h
    · rename_i hn; simp only [Prod.mk.injEq] at h; exact absurd h.2.2.2 hn
    · rename_i hbe
      obtain ⟨K, L, P, E, hB⟩ : ∃ x1 x2 x3 x4, bodyR ((b.drop f).take (t - f)) ((b.drop f).take (t - f)) 0 0 [] [] = (x1, x2, x3, x4) := ⟨_, _, _, _, rfl⟩
      rw [hB] at h hbe
      simp only [Prod.mk.injEq, ne_eq, Decidable.not_not] at h hbe
      obtain ⟨rfl, rfl, rfl, _⟩ := h
      subst hbe
      obtain ⟨_, k1, k2, k3, k4⟩ := outE_ok ho
      have hT := outE_trail ho
      obtain ⟨hbeg, ⟨p', hlen⟩, hlast⟩ := outE_parts ho
      obtain ⟨d, s, rfl, rfl, hds, hone⟩ := lenE_parts hlen
      obtain ⟨BD, hBD⟩ : ∃ x, (b.drop (10 + d + 1)).take (10 + d + 1 + s - (10 + d + 1)) = x := ⟨_, rfl⟩
      have hBl : BD.length = s := by rw [← hBD]; simp; omega
      have hBD2 : (b.drop (10 + d + 1)).take s = BD := by rw [← hBD]; congr 1; omega
      rw [hBD] at hB
      have hBlast : BD.getLast? = some 1 := by
        rw [List.getLast?_eq_getElem?, hBl, ← hBD2, List.getElem?_take_of_lt (by omega), List.getElem?_drop, ← hlast]
        congr 1
        omega
      obtain ⟨hK, hbody, hf1, hl64⟩ := bodyR_back0 BD hBlast BD [] K L P rfl (by simp) hB
      have hten : b.take 10 = [56, 61, 66, 82, 83, 46, 49, 1, 57, 61] := by
        obtain ⟨h10, hj⟩ := begE_ok b 10 0 hbeg (Nat.zero_le _)
        apply List.ext_getElem?
        intro j
        rcases Nat.lt_or_ge j 10 with hlt | hge
        · rw [List.getElem?_take_of_lt hlt]
          have := hj j hlt
          rw [Nat.zero_add] at this
          exact this
        · rw [List.getElem?_eq_none (by simp; omega), List.getElem?_eq_none (by simpa using hge)]
      have hA : aheadB K L = b.take (10 + d + 1 + s) := by
        unfold aheadB headB
        rw [← hbody, hBl, hds, List.take_add, List.take_add_one, List.take_add, hten, hone, hBD2]
        rfl
      have hLn : lineB K L = b.take (10 + d + 1 + s + 7) := by
        unfold lineB
        rw [hA, ← hT, ← List.take_add]
      refine ⟨by omega, k4, ?_, hLn⟩
      unfold encE
      rw [if_neg (by simpa using hK), if_neg (by omega), if_pos hf1, if_neg ?_]
      rw [hLn, List.length_take]
      omega
end Go.Proofs.YtolabllgnfpfaaaDoor
