/-
  At no price would more be traded, plain.
-/
import Derived.Test.YtknikhoobhgidaaCvA
namespace Go.Proofs.Ytknikhoobhgidaa
open Go.RowKit Go.Deep Go.Shelf
set_option linter.unusedVariables false
set_option linter.unusedSimpArgs false
theorem ex_max : ∀ {l : List Int}, l ≠ [] → ∃ c ∈ l, ∀ x ∈ l, x ≤ c
  | [], h => absurd rfl h
  | [a], _ => ⟨a, by simp, by simp⟩
  | a :: b :: l, _ => by
    obtain ⟨c, hc, h⟩ := ex_max (l := b :: l) (by simp)
    by_cases hac : a ≤ c
    · exact ⟨c, by simp [hc], fun x hx => by rcases List.mem_cons.1 hx with rfl | hx; exact hac; exact h x hx⟩
    · exact ⟨a, by simp, fun x hx => by rcases List.mem_cons.1 hx with rfl | hx; exact Int.le_refl _; have := h x hx; omega⟩
theorem ex_min : ∀ {l : List Int}, l ≠ [] → ∃ c ∈ l, ∀ x ∈ l, c ≤ x
  | [], h => absurd rfl h
  | [a], _ => ⟨a, by simp, by simp⟩
  | a :: b :: l, _ => by
    obtain ⟨c, hc, h⟩ := ex_min (l := b :: l) (by simp)
    by_cases hac : c ≤ a
    · exact ⟨c, by simp [hc], fun x hx => by rcases List.mem_cons.1 hx with rfl | hx; exact hac; exact h x hx⟩
    · exact ⟨a, by simp, fun x hx => by rcases List.mem_cons.1 hx with rfl | hx; exact Int.le_refl _; have := h x hx; omega⟩
theorem mem_cpt {zs : List Int} {x : Int} (h : x ∈ zs) : x ∈ cpt zs := by
  have go : ∀ m, m ≤ zs.length → ∀ k, k < m → zs.toArray[k]! ∈ Lib.compactUpTo zs.toArray m := by
    intro m
    induction m with
    | zero => intro _ k hk; omega
    | succ m ih =>
      intro hm k hk
      rw [Lib.compactUpTo_succ, List.mem_append]
      by_cases e : k = m
      · subst e
        by_cases hc : Lib.keeps zs.toArray k = true
        · exact .inr (by rw [if_pos hc]; simp)
        · left
          unfold Lib.keeps at hc
          simp only [decide_eq_true_eq, not_or, Decidable.not_not] at hc
          rw [hc.2]
          exact ih (by omega) (k - 1) (by omega)
      · exact .inl (ih (by omega) k (by omega))
  obtain ⟨k, hk, rfl⟩ := List.getElem_of_mem h
  have := go zs.length (Nat.le_refl _) k hk
  rw [getElem!_pos zs.toArray k (by simpa using hk)] at this
  unfold cpt Lib.compact
  simpa using this
theorem mem_pcs {r : Int} {b s : List It} {x : Int} (h : x ∈ r :: lp b ++ lp s) : x ∈ pcs r b s := mem_cpt (srt_mem.2 h)
theorem mem_lp {l : List It} {y : It} (h : y ∈ l) (ht : y.ty = 1) : y.pr ∈ lp l := by
  unfold lp
  exact List.mem_map.2 ⟨y, List.mem_filter.2 ⟨h, by simpa using ht⟩, rfl⟩
/-- what every price comes to comes at a price that counts. -/
theorem cand {r p : Int} {b s : List It} (hb : Sd 1 b) (hs : Sd 2 s) : ∃ c ∈ pcs r b s, wd p b ≤ wd c b ∧ wd p s ≤ wd c s := by
  by_cases h1 : (lp s).filter (fun x => decide (x ≤ p)) = []
  · have none1 : ∀ x ∈ s, acc p x = true → x.ty = 2 := fun x hx e => by
      have hk := hs.ok x hx
      rcases hk.ty with ht | ht
      · have : x.pr ∈ (lp s).filter (fun x => decide (x ≤ p)) := List.mem_filter.2 ⟨mem_lp hx ht, by
          unfold acc at e
          rw [hk.sd, ht] at e
          simpa using e⟩
        rw [h1] at this
        cases this
      · exact ht
    have hS : ∀ c, wd p s ≤ wd c s := fun c => by
      rw [wd_filter hs, wd_filter hs]
      exact tot_mono hs.ok (fun x hx e => by unfold acc; rw [none1 x hx e]; rfl)
    by_cases h2 : (lp b).filter (fun x => decide (p ≤ x)) = []
    · refine ⟨r, mem_pcs (by simp), ?_, hS r⟩
      rw [wd_filter hb, wd_filter hb]
      refine tot_mono hb.ok (fun x hx e => ?_)
      have hk := hb.ok x hx
      rcases hk.ty with ht | ht
      · have : x.pr ∈ (lp b).filter (fun x => decide (p ≤ x)) := List.mem_filter.2 ⟨mem_lp hx ht, by
          unfold acc at e
          rw [hk.sd, ht] at e
          simpa using e⟩
        rw [h2] at this
        cases this
      · unfold acc; rw [ht]; rfl
    · obtain ⟨c, hc, hmin⟩ := ex_min h2
      obtain ⟨hc1, hc2⟩ := List.mem_filter.1 hc
      refine ⟨c, mem_pcs (by simp only [List.cons_append, List.mem_cons, List.mem_append]; exact .inr (.inl hc1)), ?_, hS c⟩
      rw [wd_filter hb, wd_filter hb]
      refine tot_mono hb.ok (fun x hx e => ?_)
      have hk := hb.ok x hx
      rcases hk.ty with ht | ht
      · have := hmin x.pr (List.mem_filter.2 ⟨mem_lp hx ht, by
          unfold acc at e
          rw [hk.sd, ht] at e
          simpa using e⟩)
        unfold acc
        rw [hk.sd, ht]
        simpa using this
      · unfold acc; rw [ht]; rfl
  · obtain ⟨c, hc, hmax⟩ := ex_max h1
    obtain ⟨hc1, hc2⟩ := List.mem_filter.1 hc
    refine ⟨c, mem_pcs (by simp only [List.cons_append, List.mem_cons, List.mem_append]; exact .inr (.inr hc1)), wd_buys hb (by simpa using hc2), ?_⟩
    rw [wd_filter hs, wd_filter hs]
    refine tot_mono hs.ok (fun x hx e => ?_)
    have hk := hs.ok x hx
    rcases hk.ty with ht | ht
    · have := hmax x.pr (List.mem_filter.2 ⟨mem_lp hx ht, by
        unfold acc at e
        rw [hk.sd, ht] at e
        simpa using e⟩)
      unfold acc
      rw [hk.sd, ht]
      simpa using this
    · unfold acc; rw [ht]; rfl
/-- the volume of the quote; 0, if there is none. -/
def mvo (r : Int) (b s : List It) : Int := match quo r b s with
  | none => 0
  | some z => z.vo
theorem mst_vo {r : Int} {b s : List It} {y : Qt} (hy : y ∈ mst r b s) : ∀ z ∈ cds r b s, z.vo ≤ y.vo := by
  intro z hz
  have h1 := (List.mem_filter.1 hy).2
  simp only [decide_eq_true_eq] at h1
  obtain ⟨k, hk, rfl⟩ := List.getElem_of_mem hz
  have := mn_le (f := fun z => -z.vo) (l := cds r b s) (cds r b s).length (Nat.le_refl _) k hk hk
  (try dsimp only at this h1)
  omega
/-- at no price would more be traded. -/
theorem quo_most {r : Int} {b s : List It} (hb : Sd 1 b) (hs : Sd 2 s) (p : Int) : min (wd p b) (wd p s) ≤ mvo r b s := by
  obtain ⟨c, hc, h1, h2⟩ := cand (r := r) (p := p) hb hs
  have hcd : qAt c (wd c b) (wd c s) ∈ cds r b s := List.mem_map.2 ⟨c, hc, rfl⟩
  have hm : 0 < (mst r b s).length := bst_pos (by rw [cds_len]; exact pcs_pos _ _ _)
  have hle : min (wd p b) (wd p s) ≤ (qAt c (wd c b) (wd c s)).vo := by rw [qAt_vo]; omega
  unfold mvo
  cases hq : quo r b s with
  | none =>
    unfold quo at hq
    split at hq
    · rename_i h0
      have := mst_vo (headD_mem hm) _ hcd
      show _ ≤ (0 : Int)
      omega
    · cases hq
  | some z =>
    obtain ⟨p', _, k, hz, hmem, _⟩ := quo_at hq
    have := mst_vo hmem _ hcd
    have e : z.vo = (qAt p' (wd p' b) (wd p' s)).vo := by rw [hz]
    show _ ≤ z.vo
    omega
theorem tot_perm {a b : List It} (h : a.Perm b) : tot a = tot b := by
  induction h with
  | nil => rfl
  | cons x _ ih => rw [tot_cons, tot_cons, ih]
  | swap x y l => rw [tot_cons, tot_cons, tot_cons, tot_cons]; omega
  | trans _ _ h1 h2 => exact h1.trans h2
/-- who buys at a price; who sells there. -/
def vb (p : Int) (x : It) : Bool := x.sd == 1 && acc p x
def vs (p : Int) (x : It) : Bool := x.sd == 2 && acc p x
/-- what would be traded of interests at a price. -/
def vol (p : Int) (l : List It) : Int := min (tot (l.filter (vb p))) (tot (l.filter (vs p)))
theorem vol_perm {p : Int} {a b : List It} (h : a.Perm b) : vol p a = vol p b := by
  unfold vol
  rw [tot_perm (h.filter _), tot_perm (h.filter _)]
theorem vol_sides {p : Int} {b s : List It} (hb : Sd 1 b) (hs : Sd 2 s) : vol p (b ++ s) = min (wd p b) (wd p s) := by
  unfold vol
  rw [List.filter_append, List.filter_append, tot_app, tot_app]
  have e1 : b.filter (vb p) = b.filter (fun y => acc p y) := List.filter_congr (fun x hx => by unfold vb; rw [(hb.ok x hx).sd]; simp)
  have e2 : s.filter (vb p) = [] := List.filter_eq_nil_iff.2 (fun x hx => by unfold vb; rw [(hs.ok x hx).sd]; simp)
  have e3 : b.filter (vs p) = [] := List.filter_eq_nil_iff.2 (fun x hx => by unfold vs; rw [(hb.ok x hx).sd]; simp)
  have e4 : s.filter (vs p) = s.filter (fun y => acc p y) := List.filter_congr (fun x hx => by unfold vs; rw [(hs.ok x hx).sd]; simp)
  rw [e1, e2, e3, e4, ← wd_filter hb, ← wd_filter hs, tot_nil, Int.add_zero, Int.zero_add]
end Go.Proofs.Ytknikhoobhgidaa
