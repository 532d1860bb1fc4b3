/-
  ShP
-/
import Derived.Test.YtlhbgaiiehljpaaGreatStG
import Derived.Test.YtlhbgaiiehljpaaGreatNumB
import Derived.Test.YtlhbgaiiehljpaaGreatGaa
namespace Go.Proofs.YtlhbgaiiehljpaaGreat.Ss
set_option linter.unusedVariables false
set_option linter.unusedSimpArgs false
theorem gd_get {l : List Int} {i : Nat} (h : i < l.length) : gd l i = l[i] := by
  unfold gd
  rw [List.getD_eq_getElem?_getD, List.getElem?_eq_getElem h]
  rfl
theorem mem_take {l : List Int} {t : Nat} {x : Int} : x ∈ l.take t ↔ ∃ s, s < t ∧ s < l.length ∧ gd l s = x := by
  constructor
  · intro h
    obtain ⟨s, hs, e⟩ := List.getElem_of_mem h
    rw [List.length_take] at hs
    rw [List.getElem_take] at e
    exact ⟨s, by omega, by omega, by rw [gd_get (by omega)]; exact e⟩
  · rintro ⟨s, h1, h2, e⟩
    rw [← e, gd_get h2]
    exact List.mem_take_iff_getElem.2 ⟨s, by omega, rfl⟩
theorem sumL_set {l : List Int} {i : Nat} (h : i < l.length) (v : Int) : sumL (l.set i v) = sumL l - gd l i + v := by
  induction l generalizing i with
  | nil => cases h
  | cons x l ih =>
    cases i with
    | zero =>
      show sumL (v :: l) = _
      rw [sumL_cons, sumL_cons]
      show _ = x + sumL l - x + v
      omega
    | succ i =>
      show sumL (x :: l.set i v) = _
      rw [sumL_cons, sumL_cons, ih (by simpa using h)]
      show _ = x + sumL l - gd l i + v
      omega
theorem tot_parts (A S : Int) (ws : List Int) : A * sumL ws = S * sumL (ws.map fun w => A * w / S) + sumL (ws.map fun w => A * w % S) := by
  induction ws with
  | nil => simp [sumL]
  | cons w ws ih =>
    rw [List.map_cons, List.map_cons, sumL_cons, sumL_cons, sumL_cons, Int.mul_add, ih, Int.mul_add]
    have := Int.mul_ediv_add_emod (A * w) S
    omega
theorem sum_rests {rs : List Int} {S : Int} (hS : 0 < S) (h : ∀ q ∈ rs, 0 ≤ q ∧ q < S) : 0 ≤ sumL rs ∧ sumL rs ≤ S * ((rs.filter fun q => decide (0 < q)).length : Int) := by
  induction rs with
  | nil => simp [sumL]
  | cons q rs ih =>
    obtain ⟨i1, i2⟩ := ih (fun x hx => h x (List.mem_cons_of_mem _ hx))
    obtain ⟨h1, h2⟩ := h q List.mem_cons_self
    rw [sumL_cons]
    by_cases c : 0 < q
    · rw [List.filter_cons_of_pos (by simpa using c), List.length_cons]
      have e : S * (((rs.filter fun q => decide (0 < q)).length + 1 : Nat) : Int) = S * ((rs.filter fun q => decide (0 < q)).length : Int) + S := by rw [Int.natCast_add, Int.mul_add]; simp
      rw [e]
      omega
    · rw [List.filter_cons_of_neg (by simpa using c)]
      omega
theorem map_gd (rs : List Int) : (List.range rs.length).map (fun i => gd rs i) = rs := by
  apply List.ext_getElem
  · simp
  · intro i h1 h2
    simp only [List.getElem_map, List.getElem_range]
    exact gd_get h2
/-- the places, rising. -/
def pls (n : Nat) : List Int := (List.range n).map fun (x : Nat) => (x : Int)
theorem pls_len (n : Nat) : (pls n).length = n := by simp [pls]
theorem gd_pls {n x : Nat} (h : x < n) : gd (pls n) x = x := by
  rw [gd_get (by rw [pls_len]; exact h)]
  simp [pls]
theorem mem_pls {n : Nat} {x : Int} : x ∈ pls n ↔ ∃ i : Nat, i < n ∧ x = i := by
  unfold pls
  rw [List.mem_map]
  constructor
  · rintro ⟨i, hi, rfl⟩
    exact ⟨i, List.mem_range.1 hi, rfl⟩
  · rintro ⟨i, hi, rfl⟩
    exact ⟨i, List.mem_range.2 hi, rfl⟩
/-- the rest of a place. -/
def rr (rs : List Int) (x : Int) : Int := gd rs x.toNat
/-- places in their order. -/
structure Ord (rs pl : List Int) : Prop where
  pm : pl.Perm (pls rs.length)
  so : Srt (rr rs) (gd pl) 0 rs.length
theorem Ord.len {rs pl : List Int} (h : Ord rs pl) : pl.length = rs.length := by rw [h.pm.length_eq, pls_len]
theorem Ord.at_ {rs pl : List Int} (h : Ord rs pl) {s : Nat} (hs : s < rs.length) : ∃ i : Nat, i < rs.length ∧ gd pl s = i := mem_pls.1 (h.pm.mem_iff.1 (gd_mem (by rw [h.len]; exact hs)))
theorem Ord.pos {rs pl : List Int} (h : Ord rs pl) (h0 : ∀ q ∈ rs, 0 ≤ q) {s : Nat} (hs : s < (rs.filter fun q => decide (0 < q)).length) : 0 < rr rs (gd pl s) := by
  have hle : (rs.filter fun q => decide (0 < q)).length ≤ rs.length := List.length_filter_le _ _
  have e1 : (pl.filter fun x => decide (0 < rr rs x)).length = (rs.filter fun q => decide (0 < q)).length := by
    rw [(h.pm.filter _).length_eq]
    have e2 : (pls rs.length).map (rr rs) = rs := by
      unfold pls
      rw [List.map_map]
      have : (rr rs) ∘ (fun x : Nat => (x : Int)) = fun i => gd rs i := by funext i; simp [rr]
      rw [this, map_gd]
    have e3 : ((pls rs.length).filter fun x => decide (0 < rr rs x)).length = (((pls rs.length).map (rr rs)).filter fun q => decide (0 < q)).length := by
      rw [List.filter_map, List.length_map]
      rfl
    rw [e3, e2]
  apply Classical.byContradiction
  intro hn
  have hall : ∀ x ∈ pl.drop s, ¬ 0 < rr rs x := fun x hx => by
    obtain ⟨k, hk, e⟩ := List.getElem_of_mem hx
    rw [List.length_drop] at hk
    rw [List.getElem_drop] at e
    rw [← e, ← gd_get (by omega)]
    by_cases c : k = 0
    · rw [c]; exact hn
    · have := h.so s (s + k) (Nat.zero_le _) (by omega) (by have := h.len; omega)
      unfold lt at this
      omega
  have e4 : (pl.filter fun x => decide (0 < rr rs x)).length ≤ s := by
    rw [← List.take_append_drop s pl, List.filter_append, List.length_append]
    have e5 : (pl.drop s).filter (fun x => decide (0 < rr rs x)) = [] := List.filter_eq_nil_iff.2 (fun x hx => by simpa using hall x hx)
    rw [e5]
    have := List.length_filter_le (fun x => decide (0 < rr rs x)) (pl.take s)
    rw [List.length_take] at this
    simp
    omega
  omega
/-- what Share leaves to the rests. -/
structure Shr (A S : Int) (ws : List Int) (left : Int) : Prop where
  l0 : 0 ≤ left
  l1 : left ≤ ((ws.map fun w => A * w % S).filter fun q => decide (0 < q)).length
theorem rests_bd {A S : Int} {ws : List Int} (hS : 0 < S) : ∀ q ∈ ws.map (fun w => A * w % S), 0 ≤ q ∧ q < S := fun q hq => by
  obtain ⟨w, _, rfl⟩ := List.mem_map.1 hq
  exact ⟨Int.emod_nonneg _ (by omega), Int.emod_lt_of_pos _ hS⟩
theorem shr_of {A : Int} {ws : List Int} (hS : 0 < sumL ws) : Shr A (sumL ws) ws (A - sumL (ws.map fun w => A * w / sumL ws)) := by
  have h1 := tot_parts A (sumL ws) ws
  obtain ⟨h2, h3⟩ := sum_rests hS (rests_bd (A := A) (ws := ws) hS)
  obtain ⟨S, eS⟩ : ∃ S, sumL ws = S := ⟨_, rfl⟩
  rw [eS] at h1 h2 h3 hS ⊢
  obtain ⟨P, eP⟩ : ∃ P, sumL (ws.map fun w => A * w / S) = P := ⟨_, rfl⟩
  obtain ⟨Q, eQ⟩ : ∃ Q, sumL (ws.map fun w => A * w % S) = Q := ⟨_, rfl⟩
  obtain ⟨K, eK⟩ : ∃ K, (((ws.map fun w => A * w % S).filter fun q => decide (0 < q)).length : Int) = K := ⟨_, rfl⟩
  rw [eQ] at h1 h2 h3
  rw [eK] at h3
  rw [eP] at h1 ⊢
  have e : S * (A - P) = Q := by rw [Int.mul_sub, Int.mul_comm S A]; omega
  refine ⟨?_, ?_⟩
  · apply Classical.byContradiction
    intro hn
    have : S * (A - P) ≤ S * (-1) := Int.mul_le_mul_of_nonneg_left (by omega) (by omega)
    omega
  · rw [eK]
    apply Classical.byContradiction
    intro hn
    have : S * (K + 1) ≤ S * (A - P) := Int.mul_le_mul_of_nonneg_left (by omega) (by omega)
    rw [Int.mul_add] at this
    omega
end Go.Proofs.YtlhbgaiiehljpaaGreat.Ss
