/-
  All lines that bytes tell, plain: whatever pieces they come in.
-/
import Derived.Test.YtolabllgnfpfaaaDoorTpA
import Derived.Test.YtolabllgnfpfaaaDoorTxL
namespace Go.Proofs.YtolabllgnfpfaaaDoor
open Go.RowKit Go.Deep Go.Lib Go.Shelf Go.Sort
set_option linter.unusedVariables false

/-- a reader that holds this waits for more. -/
def Waits (l : List UInt8) : Prop := (outE l).2.2 = 20
noncomputable instance (l : List UInt8) : Decidable (Waits l) := Classical.propDecidable _
/-- the line that Next tells, if it tells one. -/
noncomputable def tl (l : List UInt8) : List (List UInt8) := if (nxR l).2.2.2.1 = true then [encB (nxR l).2.1 (nxR l).2.2.1] else []
noncomputable def dr : Nat → List UInt8 → List (List UInt8) × List UInt8
  | 0, l => ([], l)
  | n + 1, l => if Waits l then ([], l) else (tl l ++ (dr n (nxR l).1).1, (dr n (nxR l).1).2)
noncomputable def drain (l : List UInt8) : List (List UInt8) × List UInt8 := dr l.length l
theorem waits_nil : Waits [] := by
  unfold Waits outE
  have h : (begE [] 0 10).2 = 20 := by simp [begE]
  rw [if_pos (by rw [h]; simp)]
  exact h
theorem ftG_pos (l : List UInt8) (hl : 0 < l.length) : ∀ (r i : Nat), 1 ≤ ftG l r i
  | 0, i => hl
  | r + 1, i => by
    unfold ftG
    split
    · rename_i h; exact h.1
    · exact ftG_pos l hl r (i + 1)
theorem pos_of {l : List UInt8} (h : ¬ Waits l) : 0 < l.length := by
  cases l with
  | nil => exact absurd waits_nil h
  | cons => simp
theorem nx_shrink {l : List UInt8} (h : ¬ Waits l) : (nxR l).1.length < l.length := by
  have hl := pos_of h
  unfold nxR
  rw [if_neg (show ¬ (outE l).2.2 = 20 from h)]
  split
  · have := ftG_pos l hl l.length 0
    simp
    unfold ftN
    omega
  · simp
    omega
theorem dr_ge : ∀ (n : Nat) (l : List UInt8), l.length ≤ n → dr n l = drain l := by
  intro n
  induction n using Nat.strongRecOn with
  | ind n ih =>
    intro l hn
    unfold drain
    by_cases hw : Waits l
    · cases n with
      | zero =>
        have : l.length = 0 := by omega
        rw [this]
      | succ n =>
        cases hl : l.length with
        | zero => unfold dr; rw [if_pos hw]
        | succ m => unfold dr; rw [if_pos hw, if_pos hw]
    · have hp := pos_of hw
      have hs := nx_shrink hw
      obtain ⟨m, hm⟩ : ∃ m, l.length = m + 1 := ⟨l.length - 1, by omega⟩
      obtain ⟨k, hk⟩ : ∃ k, n = k + 1 := ⟨n - 1, by omega⟩
      subst hk
      rw [hm]
      unfold dr
      rw [if_neg hw, if_neg hw, ih k (by omega) _ (by omega)]
      by_cases hkm : k = m
      · subst hkm
        rw [ih k (by omega) _ (by omega)]
      · rw [ih m (by omega) _ (by omega)]
theorem drain_wait {l : List UInt8} (h : Waits l) : drain l = ([], l) := by
  unfold drain
  cases l.length with
  | zero => rfl
  | succ n => unfold dr; rw [if_pos h]
theorem drain_step {l : List UInt8} (h : ¬ Waits l) : drain l = (tl l ++ (drain (nxR l).1).1, (drain (nxR l).1).2) := by
  have hs := nx_shrink h
  obtain ⟨m, hm⟩ : ∃ m, l.length = m + 1 := ⟨l.length - 1, by omega⟩
  conv => lhs; unfold drain
  rw [hm]
  unfold dr
  rw [if_neg h, dr_ge m _ (by omega)]
theorem foot_drop (x : List UInt8) (k j : Nat) (hj : 1 ≤ j) (hk : k + j < x.length) : FootAt (x.drop k) j ↔ FootAt x (k + j) := by
  unfold FootAt
  rw [List.getElem?_drop, List.getElem?_drop, List.length_drop, Nat.add_assoc]
  constructor
  · rintro ⟨a, b, c | c⟩
    · exact ⟨by omega, b, Or.inl (by omega)⟩
    · exact ⟨by omega, b, Or.inr c⟩
  · rintro ⟨a, b, c | c⟩
    · exact ⟨hj, b, Or.inl (by omega)⟩
    · exact ⟨hj, b, Or.inr c⟩
theorem ftN_spec (l : List UInt8) : (∀ j, j < ftN l → ¬ FootAt l j) ∧ (ftN l < l.length → FootAt l (ftN l)) := by
  have h : ∀ (n i : Nat), i + n = l.length → (∀ j, j < i → ¬ FootAt l j) → (∀ j, j < ftN l → ¬ FootAt l j) ∧ (ftN l < l.length → FootAt l (ftN l)) := by
    intro n
    induction n with
    | zero =>
      intro i hi hn
      have e := ftN_end l (fun j hj => hn j (by omega))
      rw [e]
      exact ⟨fun j hj => hn j (by omega), fun h => by omega⟩
    | succ n ih =>
      intro i hi hn
      by_cases hf : FootAt l i
      · have e := ftN_at l i (by omega) hn hf
        rw [e]
        exact ⟨hn, fun _ => hf⟩
      · exact ih (i + 1) (by omega) (fun j hj => by
          by_cases e : j = i
          · subst e; exact hf
          · exact hn j (by omega))
  exact h l.length 0 (by omega) (fun j hj => by omega)
theorem bad_next {l : List UInt8} (h0 : (outE l).2.2 ≠ 0) (h20 : ¬ Waits l) : (nxR l).1 = l.drop (ftN l) ∧ tl l = [] := by
  have h : nxR l = (l.drop (ftN l), [], [], false, (outE l).2.2) := by
    unfold nxR
    rw [if_neg (show ¬ (outE l).2.2 = 20 from h20), if_pos h0]
  unfold tl
  rw [h]
  exact ⟨rfl, by simp⟩
/-- bytes at which no line begins may be let go before a foot. -/
theorem drain_skip (x : List UInt8) (h0 : (outE x).2.2 ≠ 0) (h20 : ¬ Waits x) (k : Nat) (k1 : 1 ≤ k) (kl : k ≤ x.length) (hn : ∀ j, j < k → ¬ FootAt x j) : drain x = drain (x.drop k) := by
  obtain ⟨hb, ht⟩ := bad_next h0 h20
  have hx : drain x = drain (x.drop (ftN x)) := by rw [drain_step h20, hb, ht]; simp
  obtain ⟨s1, s2⟩ := ftN_spec x
  have hfl := ftN_le x
  have hkf : k ≤ ftN x := by
    rcases Nat.lt_or_ge (ftN x) k with h | h
    · exact absurd (s2 (by omega)) (hn _ h)
    · exact h
  by_cases he : k = ftN x
  · rw [he]; exact hx
  · have hlt : k < ftN x := by omega
    have hkx : k < x.length := by omega
    have hnf : ¬ FootAt x k := s1 k hlt
    have h3 : (outE (x.drop k)).2.2 = 3 := outE_nofoot (x.drop k) (by simp; omega) (fun h => hnf ⟨k1, by
      have := h.1
      rw [List.getElem?_drop] at this
      simpa using this, by
      rcases h.2 with h | h
      · left; simp at h; omega
      · right; rw [List.getElem?_drop] at h; exact h⟩)
    have hw : ¬ Waits (x.drop k) := by unfold Waits; rw [h3]; simp
    obtain ⟨hb2, ht2⟩ := bad_next (l := x.drop k) (by rw [h3]; simp) hw
    have hf2 : ftN (x.drop k) = ftN x - k := by
      have hno : ∀ j, j < ftN x - k → ¬ FootAt (x.drop k) j := fun j hj hf => by
        have := hf.1
        exact s1 (k + j) (by omega) ((foot_drop x k j (by omega) (by omega)).1 hf)
      by_cases hfx : ftN x < x.length
      · refine ftN_at (x.drop k) (ftN x - k) (by simp; omega) hno ?_
        refine (foot_drop x k (ftN x - k) (by omega) (by omega)).2 ?_
        rw [show k + (ftN x - k) = ftN x by omega]
        exact s2 hfx
      · rw [ftN_end (x.drop k) (fun j hj => hno j (by simp at hj; omega))]
        simp
        omega
    rw [hx, drain_step hw, hb2, ht2, hf2, List.drop_drop, show k + (ftN x - k) = ftN x by omega]
    simp
theorem decR_more (l b : List UInt8) {f t p : Nat} (h : outE l = ((f, t), p, 0)) : (decR (l ++ b)).1 = (decR l).1 ∧ (decR (l ++ b)).2.1 = (decR l).2.1 ∧ (decR (l ++ b)).2.2.2 = (decR l).2.2.2 := by
  obtain ⟨_, k1, k2, k3, k4⟩ := outE_ok h
  have h' : outE (l ++ b) = ((f, t), p, 0) := by rw [outE_more l b (by rw [h]; simp)]; exact h
  obtain ⟨a1, a2, a3, _⟩ := decR_whole h
  obtain ⟨b1, b2, b3, _⟩ := decR_whole h'
  have e : ((l ++ b).drop f).take (t - f) = (l.drop f).take (t - f) := by
    rw [List.drop_append_of_le_length (by omega), List.take_append_of_le_length (by simp; omega)]
  rw [e] at b1 b2 b3
  exact ⟨b1.trans a1.symm, b2.trans a2.symm, b3.trans a3.symm⟩
/-- whatever pieces bytes come in. -/
theorem drain_app : ∀ (n : Nat) (l b : List UInt8), l.length ≤ n → drain (l ++ b) = ((drain l).1 ++ (drain ((drain l).2 ++ b)).1, (drain ((drain l).2 ++ b)).2) := by
  intro n
  induction n with
  | zero =>
    intro l b hn
    have : l = [] := List.length_eq_zero_iff.1 (by omega)
    subst this
    rw [drain_wait waits_nil]
    simp
  | succ n ih =>
    intro l b hn
    by_cases hw : Waits l
    · rw [drain_wait hw]
      simp
    · have hs := nx_shrink hw
      have ho := outE_more l b hw
      have hw' : ¬ Waits (l ++ b) := by unfold Waits; rw [ho]; exact hw
      rw [drain_step hw]
      simp only
      by_cases h0 : (outE l).2.2 = 0
      · obtain ⟨f, t, p, er, hoe⟩ : ∃ f t p e, outE l = ((f, t), p, e) := ⟨_, _, _, _, rfl⟩
        rw [hoe] at h0
        simp only at h0
        subst h0
        obtain ⟨_, k1, k2, k3, k4⟩ := outE_ok hoe
        obtain ⟨d1, d2, d3⟩ := decR_more l b hoe
        have hx : nxR (l ++ b) = ((nxR l).1 ++ b, (nxR l).2) := by
          unfold nxR
          rw [ho, hoe]
          simp only
          rw [if_neg (by simp), if_neg (by simp), if_neg (by simp), if_neg (by simp), d1, d2, d3, List.drop_append_of_le_length (by omega)]
        have ht : tl (l ++ b) = tl l := by unfold tl; rw [hx]
        rw [drain_step hw', hx, ht]
        simp only
        rw [ih (nxR l).1 b (by omega), List.append_assoc]
      · obtain ⟨hb, ht⟩ := bad_next h0 hw
        have hfl := ftN_le l
        have hf1 : 1 ≤ ftN l := ftG_pos l (pos_of hw) l.length 0
        have hsk := drain_skip (l ++ b) (by rw [ho]; exact h0) hw' (ftN l) hf1 (by rw [List.length_append]; omega) (fun j hj hf => by
          refine (ftN_spec l).1 j hj ⟨hf.1, ?_, ?_⟩
          · have := hf.2.1
            rw [List.getElem?_append_left (by omega)] at this
            exact this
          · by_cases hje : j + 1 = l.length
            · exact Or.inl hje
            · right
              rcases hf.2.2 with h | h
              · rw [List.length_append] at h; omega
              · rw [List.getElem?_append_left (by omega)] at h
                exact h)
        rw [hsk, ht, hb, List.drop_append_of_le_length hfl, ih (l.drop (ftN l)) b (by rw [hb] at hs; omega)]
        simp
end Go.Proofs.YtolabllgnfpfaaaDoor
