/-
  One spoilt byte: plain.
-/
import Derived.Test.YtolabllgnfpfaaaDoorTyG
import Derived.Test.YtolabllgnfpfaaaDoorTxS
namespace Go.Proofs.YtolabllgnfpfaaaDoor
open Go.RowKit Go.Deep Go.Lib Go.Shelf Go.Sort
set_option linter.unusedVariables false

theorem fold_inj : ∀ (l : List UInt8) (s t : Nat), s < 256 → t < 256 → l.foldl (fun s c => (s + c.toNat) % 256) s = l.foldl (fun s c => (s + c.toNat) % 256) t → s = t
  | [], s, t, _, _, h => h
  | c :: l, s, t, hs, ht, h => by
    simp only [List.foldl_cons] at h
    have := fold_inj l _ _ (Nat.mod_lt _ (by decide)) (Nat.mod_lt _ (by decide)) h
    have hc := c.toNat_lt
    omega
theorem sumB_set (y : List UInt8) (a : Nat) (ha : a < y.length) (c : UInt8) (h : sumB (y.set a c) = sumB y) : c = y[a] := by
  have e1 : y = y.take a ++ y[a] :: y.drop (a + 1) := by rw [← List.drop_eq_getElem_cons ha]; simp
  have e2 : y.set a c = y.take a ++ c :: y.drop (a + 1) := by rw [List.set_eq_take_append_cons_drop, if_pos ha]
  rw [e2] at h
  conv at h => rhs; rw [e1]
  unfold sumB at h
  rw [List.foldl_append, List.foldl_append, List.foldl_cons, List.foldl_cons] at h
  have h1 := fold_inj _ _ _ (Nat.mod_lt _ (by decide)) (Nat.mod_lt _ (by decide)) h
  have hc := c.toNat_lt
  have hy := (y[a]).toNat_lt
  apply UInt8.toNat_inj.1
  omega
theorem ofNat_inj {a b : Nat} (ha : a < 256) (hb : b < 256) (h : UInt8.ofNat a = UInt8.ofNat b) : a = b := by
  have := congrArg UInt8.toNat h
  simpa [Nat.mod_eq_of_lt ha, Nat.mod_eq_of_lt hb] using this
theorem trailB_inj {y z : List UInt8} (h : trailB y = trailB z) : sumB y = sumB z := by
  unfold trailB at h
  rw [three_plain _ (sumB_lt y), three_plain _ (sumB_lt z)] at h
  have hy := sumB_lt y
  have hz := sumB_lt z
  simp only [List.cons_append, List.nil_append, List.cons.injEq, true_and, and_true] at h
  obtain ⟨h1, h2, h3⟩ := h
  have := ofNat_inj (by omega) (by omega) h1
  have := ofNat_inj (by omega) (by omega) h2
  have := ofNat_inj (by omega) (by omega) h3
  omega
theorem outE_trail {l : List UInt8} {f t p : Nat} (h : outE l = ((f, t), p, 0)) : (l.drop t).take 7 = trailB (l.take t) := by
  unfold outE at h
  split at h
  · rename_i hn; simp only [Prod.mk.injEq] at h; exact absurd h.2.2 hn
  · split at h
    · rename_i hn; simp only [Prod.mk.injEq] at h; exact absurd h.2.2 hn
    · split at h
      · simp at h
      · split at h
        · simp at h
        · split at h
          · simp at h
          · rename_i hT
            simp only [Prod.mk.injEq] at h
            rw [h.1] at hT
            simpa using hT
/-- a line in which one byte is another doesn't read whole. -/
theorem spoilt (y : List UInt8) (a : Nat) (ha : a < (y ++ trailB y).length) (c : UInt8) (hc : c ≠ (y ++ trailB y)[a]) (h1 : (decR ((y ++ trailB y).set a c)).2.2.2 = 0) : (decR ((y ++ trailB y).set a c)).2.2.1 ≠ (y ++ trailB y).length := by
  intro h2
  have h7 := trailB_len y
  have hxl : (y ++ trailB y).length = y.length + 7 := by simp [h7]
  obtain ⟨X, hX⟩ : ∃ X, (y ++ trailB y).set a c = X := ⟨_, rfl⟩
  rw [hX] at h1 h2
  unfold decR at h1 h2
  obtain ⟨f, t, p, e, ho⟩ : ∃ f t p e, outE X = ((f, t), p, e) := ⟨_, _, _, _, rfl⟩
  rw [ho] at h1 h2
  simp only at h1 h2
  split at h1
  · rename_i hn; exact absurd h1 hn
  · rename_i he
    rw [if_neg he] at h2
    split at h1
    · rename_i hn; exact absurd h1 hn
    · rename_i hb
      rw [if_neg hb] at h2
      simp only at h2
      have he0 : e = 0 := by simpa using he
      subst he0
      have hT := outE_trail ho
      have ht : t = y.length := by omega
      subst ht
      subst hX
      rcases Nat.lt_or_ge a y.length with hlt | hge
      · rw [List.set_append_left _ _ hlt, List.take_left' (by simp), List.drop_left' (by simp), ← h7, List.take_length] at hT
        have := sumB_set y a hlt c (trailB_inj hT).symm
        rw [List.getElem_append_left hlt] at hc
        exact hc this
      · rw [List.set_append_right _ _ hge, List.take_left' rfl, List.drop_left' rfl, List.take_of_length_le (by simp [h7])] at hT
        rw [List.getElem_append_right hge] at hc
        have hl : a - y.length < (trailB y).length := by rw [hxl] at ha; omega
        have h3 : ((trailB y).set (a - y.length) c)[a - y.length]'(by simpa using hl) = c := by simp
        apply hc
        rw [← h3]
        simp only [hT]
end Go.Proofs.YtolabllgnfpfaaaDoor
