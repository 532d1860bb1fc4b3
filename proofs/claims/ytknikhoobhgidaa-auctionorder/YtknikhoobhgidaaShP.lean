/-
  All prices moved by the same, plain.
-/
import Derived.Test.YtknikhoobhgidaaMsA
namespace Go.Proofs.Ytknikhoobhgidaa
open Go.RowKit Go.Deep Go.Shelf
set_option linter.unusedVariables false
set_option linter.unusedSimpArgs false
/-- an interest whose price is moved. -/
def mv (d : Int) (x : It) : It := if x.ty = 2 then x else { x with pr := x.pr + d }
theorem mv_id (d : Int) (x : It) : (mv d x).id = x.id := by unfold mv; split <;> rfl
theorem mv_sd (d : Int) (x : It) : (mv d x).sd = x.sd := by unfold mv; split <;> rfl
theorem mv_ty (d : Int) (x : It) : (mv d x).ty = x.ty := by unfold mv; split <;> rfl
theorem mv_qt (d : Int) (x : It) : (mv d x).qt = x.qt := by unfold mv; split <;> rfl
theorem mv_pr (d : Int) (x : It) : (mv d x).pr = if x.ty = 2 then x.pr else x.pr + d := by unfold mv; split <;> rfl
theorem ahd_mv (d : Int) (x y : It) : ahd (mv d x) (mv d y) = ahd x y := by
  unfold ahd
  rw [mv_ty, mv_ty, mv_sd, mv_pr, mv_pr]
  by_cases h : x.ty = y.ty
  · rw [if_pos h, if_pos h]
    by_cases h2 : x.ty = 2
    · have e2 : y.ty = 2 := by omega
      rw [if_pos h2, if_pos e2]
    · have e2 : ¬ y.ty = 2 := by omega
      rw [if_neg h2, if_neg e2]
      by_cases h3 : x.sd = 1
      · rw [if_pos h3, if_pos h3, decide_eq_decide]; omega
      · rw [if_neg h3, if_neg h3, decide_eq_decide]; omega
  · rw [if_neg h, if_neg h]
theorem acc_mv (d p : Int) (x : It) : acc (p + d) (mv d x) = acc p x := by
  unfold acc
  rw [mv_ty, mv_sd, mv_pr]
  by_cases h2 : x.ty = 2
  · rw [if_pos h2, if_pos h2]
  · rw [if_neg h2, if_neg h2, if_neg h2]
    by_cases h3 : x.sd = 1
    · rw [if_pos h3, if_pos h3, decide_eq_decide]; omega
    · rw [if_neg h3, if_neg h3, decide_eq_decide]; omega
theorem bh_mv (d : Int) (x : It) (l : List It) : bh (mv d x) (l.map (mv d)) = bh x l := by
  unfold bh
  rw [List.takeWhile_map, List.length_map]
  congr 2
  funext y
  simp only [Function.comp_apply, ahd_mv]
theorem ent_mv (d : Int) (x : It) (l : List It) : ent (mv d x) (l.map (mv d)) = (ent x l).map (mv d) := by
  unfold ent ins
  rw [bh_mv, List.map_append, List.map_cons, List.map_take, List.map_drop]
theorem hsi_mv (d id : Int) (l : List It) : hsi id (l.map (mv d)) = hsi id l := by
  unfold hsi
  rw [List.any_map]
  congr 1
  funext y
  simp only [Function.comp_apply, mv_id]
/-- its price may be moved so. -/
def rng (d : Int) (x : It) : Prop := x.ty = 2 ∨ (0 ≤ x.pr + d ∧ x.pr + d < 262144)
theorem ck_mv {d : Int} {x : It} (h : ck x = 0) (hr : rng d x) : ck (mv d x) = 0 := by
  unfold rng at hr
  unfold ck at h ⊢
  rw [mv_sd, mv_ty, mv_pr, mv_qt]
  by_cases h2 : x.ty = 2
  · rw [if_pos h2]; exact h
  · rw [if_neg h2]
    split at h
    · omega
    rename_i h3
    split at h
    · omega
    rename_i h4
    split at h
    · omega
    split at h
    · omega
    rename_i h6
    rw [if_neg h3, if_neg h4, if_neg (by omega), if_neg h6]
theorem rfi_mv {d m : Int} {b s : List It} {x : It} (h : rfi m b s x = 0) (hr : rng d x) : rfi m (b.map (mv d)) (s.map (mv d)) (mv d x) = 0 := by
  obtain ⟨h1, h2, h3, h4, h5⟩ := rfi_ok h
  unfold rfi
  rw [ck_mv h1 hr, mv_id, hsi_mv, hsi_mv, h3, h4, List.length_map, List.length_map, if_neg (by simp), if_neg (by simp [h2]), if_neg (by omega)]
theorem stp_mv {d m : Int} {b s T : List It} {x : It} (h : rfi m b s x = 0) (hr : rng d x) : stp m (b.map (mv d), s.map (mv d), T.map (mv d)) (mv d x) = ((eb m b s x).map (mv d), (es m b s x).map (mv d), (T ++ [x]).map (mv d)) := by
  unfold stp eb es
  simp only [rfi_mv h hr, h, mv_sd, true_and, if_true, List.map_append, List.map_cons, List.map_nil]
  congr 1
  · split
    · exact ent_mv _ _ _
    · rfl
  · congr 1
    split
    · exact ent_mv _ _ _
    · rfl
/-- those that were taken are taken again, moved. -/
theorem etd_mv {d m : Int} (l : List It) : ∀ i, i ≤ l.length → (∀ x ∈ (etd m (l.take i)).2.2, rng d x) → etd m ((etd m (l.take i)).2.2.map (mv d)) = ((etd m (l.take i)).1.map (mv d), (etd m (l.take i)).2.1.map (mv d), (etd m (l.take i)).2.2.map (mv d)) := by
  intro i
  induction i with
  | zero => intro _ _; rfl
  | succ i ih =>
    intro hi
    rw [etd_step (by omega)]
    intro hr
    obtain ⟨t, ht⟩ : ∃ t, etd m (l.take i) = t := ⟨_, rfl⟩
    rw [ht] at ih hr ⊢
    by_cases h0 : rfi m t.1 t.2.1 l[i] = 0
    · have e : stp m t l[i] = (eb m t.1 t.2.1 l[i], es m t.1 t.2.1 l[i], t.2.2 ++ [l[i]]) := by unfold stp; rw [if_pos h0]
      rw [e] at hr ⊢
      have hx : rng d l[i] := hr l[i] (by simp)
      have ih' := ih (by omega) (fun x hx => hr x (by simp [hx]))
      show etd m ((t.2.2 ++ [l[i]]).map (mv d)) = _
      rw [List.map_append]
      unfold etd at ih' ⊢
      rw [List.foldl_append, ih']
      have hh := stp_mv (T := t.2.2) h0 hx
      rw [List.map_append] at hh
      exact hh
    · have e : stp m t l[i] = t := by
        unfold stp eb es
        rw [if_neg h0, if_neg (by omega), if_neg (by omega)]
      rw [e] at hr ⊢
      exact ih (by omega) hr
/-- a quote whose price is moved. -/
def sh (d : Int) (z : Qt) : Qt := { z with pr := z.pr + d }
theorem wd_mv (d p : Int) (l : List It) : wd (p + d) (l.map (mv d)) = wd p l := by
  have e : wl (p + d) (l.map (mv d)) = wl p l := by
    unfold wl
    rw [List.takeWhile_map, List.length_map]
    congr 2
    funext y
    simp only [Function.comp_apply, acc_mv]
  unfold wd
  rw [e, ← List.map_take]
  unfold tot
  rw [List.map_map]
  congr 2
  funext y
  simp only [Function.comp_apply, mv_qt]
theorem qAt_sh (d p b s : Int) : qAt (p + d) b s = sh d (qAt p b s) := by
  unfold qAt
  split
  · rfl
  split <;> rfl
theorem lp_mv (d : Int) (l : List It) : lp (l.map (mv d)) = (lp l).map (· + d) := by
  unfold lp
  rw [List.filter_map, List.map_map, List.map_map]
  have e : ((fun x : It => x.ty == 1) ∘ mv d) = fun x : It => x.ty == 1 := by funext y; simp only [Function.comp_apply, mv_ty]
  rw [e]
  refine List.map_congr_left (fun x hx => ?_)
  have := (List.mem_filter.1 hx).2
  simp only [beq_iff_eq] at this
  simp only [Function.comp_apply, mv_pr]
  rw [if_neg (by omega)]
theorem srt_pw (zs : List Int) : (srt zs).Pairwise (fun x y => x ≤ y) := by
  unfold srt
  have := List.pairwise_mergeSort (le := fun x y : Int => decide (x ≤ y)) (fun a b c h1 h2 => by simp only [decide_eq_true_eq] at *; omega) (fun a b => by simp only [Bool.or_eq_true, decide_eq_true_eq]; omega) zs
  exact this.imp (fun h => by simpa using h)
theorem srt_eq {a b : List Int} (h : a.Perm b) : srt a = srt b := by
  refine List.Perm.eq_of_pairwise (le := fun x y => x ≤ y) (fun a b _ _ h1 h2 => by omega) (srt_pw a) (srt_pw b) ?_
  unfold srt
  exact ((List.mergeSort_perm a _).trans h).trans (List.mergeSort_perm b _).symm
theorem srt_sh (d : Int) (zs : List Int) : srt (zs.map (· + d)) = (srt zs).map (· + d) := by
  refine List.Perm.eq_of_pairwise (le := fun x y => x ≤ y) (fun a b _ _ h1 h2 => by omega) (srt_pw _) ?_ ?_
  · rw [List.pairwise_map]
    exact (srt_pw zs).imp (fun h => by omega)
  · unfold srt
    exact (List.mergeSort_perm _ _).trans ((List.mergeSort_perm zs _).symm.map _)
theorem cpt_sh (d : Int) (zs : List Int) : cpt (zs.map (· + d)) = (cpt zs).map (· + d) := by
  unfold cpt Lib.compact
  rw [List.length_map]
  have at' : ∀ k, k < zs.length → (zs.map (· + d)).toArray[k]! = zs.toArray[k]! + d := fun k hk => by
    rw [getElem!_pos (zs.map (· + d)).toArray k (by simpa using hk), getElem!_pos zs.toArray k (by simpa using hk)]
    simp
  have go : ∀ m, m ≤ zs.length → Lib.compactUpTo (zs.map (· + d)).toArray m = (Lib.compactUpTo zs.toArray m).map (· + d) := by
    intro m
    induction m with
    | zero => intro _; rfl
    | succ m ih =>
      intro hm
      rw [Lib.compactUpTo_succ, Lib.compactUpTo_succ, ih (by omega), List.map_append]
      congr 1
      have e : Lib.keeps (zs.map (· + d)).toArray m = Lib.keeps zs.toArray m := by
        unfold Lib.keeps
        rw [decide_eq_decide]
        by_cases h0 : m = 0
        · simp [h0]
        · rw [at' m (by omega), at' (m - 1) (by omega)]
          omega
      rw [e]
      split
      · rw [at' m (by omega)]; rfl
      · rfl
  exact go _ (Nat.le_refl _)
theorem pcs_sh (d r : Int) (b s : List It) : pcs (r + d) (b.map (mv d)) (s.map (mv d)) = (pcs r b s).map (· + d) := by
  unfold pcs
  rw [lp_mv, lp_mv, ← cpt_sh, ← srt_sh]
  simp
theorem cds_sh (d r : Int) (b s : List It) : cds (r + d) (b.map (mv d)) (s.map (mv d)) = (cds r b s).map (sh d) := by
  unfold cds
  rw [pcs_sh, List.map_map, List.map_map]
  congr 1
  funext p
  simp only [Function.comp_apply, wd_mv, qAt_sh]
theorem headD_sh {d : Int} {l : List Qt} (h : 0 < l.length) : (l.map (sh d)).headD q0 = sh d (l.headD q0) := by
  cases l with
  | nil => simp at h
  | cons x l => rfl
theorem lastD_sh {d : Int} {l : List Qt} (h : 0 < l.length) : (l.map (sh d)).getLastD q0 = sh d (l.getLastD q0) := by
  rw [List.getLastD_eq_getLast?, List.getLastD_eq_getLast?, List.getLast?_map, List.getLast?_eq_getElem?, List.getElem?_eq_getElem (by omega)]
  rfl
theorem mn_sh {d : Int} {f g : Qt → Int} (hfg : ∀ z, g (sh d z) = f z) {l : List Qt} (h : 0 < l.length) : ∀ i, i ≤ l.length → mn g (l.map (sh d)) i = sh d (mn f l i) := by
  intro i
  induction i with
  | zero => intro _; exact headD_sh h
  | succ i ih =>
    intro hi
    have ih' := ih (by omega)
    rw [mn_succ (by simp; omega), mn_succ (by omega), ih', List.getElem_map, hfg, hfg]
    split <;> rfl
theorem bst_sh {d : Int} {f g : Qt → Int} (hfg : ∀ z, g (sh d z) = f z) {l : List Qt} (h : 0 < l.length) : bst g (l.map (sh d)) = (bst f l).map (sh d) := by
  unfold bst
  rw [List.length_map, mn_sh hfg h _ (Nat.le_refl _), List.filter_map]
  congr 2
  funext z
  simp only [Function.comp_apply, hfg]
theorem prs_sh {d : Int} {l : List Qt} (h : 0 < l.length) : prs (l.map (sh d)) = prs l := by
  unfold prs
  have e : (l.map (sh d)).headD ⟨0, 0, 0, 0, 0⟩ = sh d (l.headD ⟨0, 0, 0, 0, 0⟩) := headD_sh h
  rw [e, List.all_map]
  rfl
theorem dcd_sh {d r : Int} {l : List Qt} (h : 0 < l.length) : dcd (r + d) (l.map (sh d)) = sh d (dcd r l) := by
  have e1 : bst (fun z => z.su) (l.map (sh d)) = (bst (fun z => z.su) l).map (sh d) := bst_sh (fun z => rfl) h
  have p1 : 0 < (bst (fun z => z.su) l).length := bst_pos h
  have e2 : bst (fun z => max (z.pr - (r + d)) (r + d - z.pr)) ((bst (fun z => z.su) l).map (sh d)) = (bst (fun z => max (z.pr - r) (r - z.pr)) (bst (fun z => z.su) l)).map (sh d) := bst_sh (fun z => by show max (z.pr + d - (r + d)) (r + d - (z.pr + d)) = _; omega) p1
  have p2 : 0 < (bst (fun z => max (z.pr - r) (r - z.pr)) (bst (fun z => z.su) l)).length := bst_pos p1
  unfold dcd
  rw [e1, e2, List.length_map, List.length_map, prs_sh p1, headD_sh h, headD_sh p1, headD_sh p2, lastD_sh p1]
  split
  · rfl
  split
  · rfl
  split
  · rfl
  split <;> rfl
/-- the quote is moved by the same. -/
theorem quo_sh (d r : Int) (b s : List It) : quo (r + d) (b.map (mv d)) (s.map (mv d)) = (quo r b s).map (sh d) := by
  have h0 : 0 < (cds r b s).length := by rw [cds_len]; exact pcs_pos _ _ _
  have e1 : mst (r + d) (b.map (mv d)) (s.map (mv d)) = (mst r b s).map (sh d) := by
    unfold mst
    rw [cds_sh]
    exact bst_sh (fun z => rfl) h0
  have p1 : 0 < (mst r b s).length := bst_pos h0
  unfold quo
  rw [e1, headD_sh p1, dcd_sh p1]
  have e2 : (sh d ((mst r b s).headD q0)).vo = ((mst r b s).headD q0).vo := rfl
  rw [e2]
  split <;> rfl
end Go.Proofs.Ytknikhoobhgidaa
