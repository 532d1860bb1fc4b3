/-
  The document's call, plain: interests in the order in which they were entered.
-/
import Derived.Test.YtnmkfdndfhefiaaGreatAuX
namespace Go.Proofs.YtnmkfdndfhefiaaGreat
open Go.RowKit Go.Deep Go.Shelf
set_option linter.unusedVariables false
set_option linter.unusedSimpArgs false
/-- a side in its priority, however long. -/
structure So (s : Int) (l : List It) : Prop where
  ok : ∀ x ∈ l, Ik s x
  so : l.Pairwise fun a b => ahd b a = false
theorem Sd.so' {s : Int} {l : List It} (h : Sd s l) : So s l := ⟨h.ok, h.so⟩
theorem So.nil (s : Int) : So s [] := ⟨by simp, .nil⟩
theorem So.tail {s : Int} {y : It} {l : List It} (h : So s (y :: l)) : So s l := ⟨fun x hx => h.ok x (by simp [hx]), (List.pairwise_cons.1 h.so).2⟩
theorem So.filter {s : Int} {l : List It} (h : So s l) (P : It → Bool) : So s (l.filter P) := ⟨fun x hx => h.ok x (List.mem_filter.1 hx).1, h.so.filter _⟩
theorem ahd_trans {s : Int} {x c a : It} (hx : Ik s x) (hc : Ik s c) (ha : Ik s a) (h1 : ahd x c = true) (h2 : ahd c a = true) : ahd x a = true := ahd_up hx hc ha h1 (ahd_asym hc ha h2)
theorem tw_filter {s : Int} {x : It} (hx : Ik s x) : ∀ {l : List It}, So s l → l.takeWhile (fun y => !ahd x y) = l.filter (fun y => !ahd x y) ∧ l.dropWhile (fun y => !ahd x y) = l.filter (fun y => ahd x y)
  | [], _ => ⟨rfl, rfl⟩
  | y :: l, h => by
    by_cases hy : ahd x y = true
    · have all : ∀ z ∈ l, ahd x z = true := fun z hz => ahd_up hx (h.ok y (by simp)) (h.ok z (by simp [hz])) hy ((List.pairwise_cons.1 h.so).1 z hz)
      refine ⟨?_, ?_⟩
      · rw [List.takeWhile_cons, if_neg (by simp [hy]), List.filter_cons, if_neg (by simp [hy])]
        exact (List.filter_eq_nil_iff.2 (fun z hz => by simp [all z hz])).symm
      · rw [List.dropWhile_cons, if_neg (by simp [hy]), List.filter_cons, if_pos hy, List.filter_eq_self.2 (fun z hz => all z hz)]
    · have ih := tw_filter hx h.tail
      have hy' : ahd x y = false := by simpa using hy
      refine ⟨?_, ?_⟩
      · rw [List.takeWhile_cons, if_pos (by simp [hy']), List.filter_cons, if_pos (by simp [hy']), ih.1]
      · rw [List.dropWhile_cons, if_pos (by simp [hy']), List.filter_cons, if_neg hy, ih.2]
theorem ent_split {s : Int} {x : It} {l : List It} (h : So s l) (hx : Ik s x) : ent x l = l.filter (fun y => !ahd x y) ++ x :: l.filter (fun y => ahd x y) := by
  have e := tw_filter hx h
  have e0 : l = l.takeWhile (fun y => !ahd x y) ++ l.dropWhile (fun y => !ahd x y) := List.takeWhile_append_dropWhile.symm
  have e1 : l.take (bh x l) = l.takeWhile (fun y => !ahd x y) := by
    unfold bh
    conv => lhs; arg 2; rw [e0]
    exact List.take_left' rfl
  have e2 : l.drop (bh x l) = l.dropWhile (fun y => !ahd x y) := by
    unfold bh
    conv => lhs; arg 2; rw [e0]
    exact List.drop_left' rfl
  unfold ent ins
  rw [e1, e2, e.1, e.2]
theorem So.ent {s : Int} {x : It} {l : List It} (h : So s l) (hx : Ik s x) : So s (Go.Proofs.YtnmkfdndfhefiaaGreat.ent x l) := by
  rw [ent_split h hx]
  refine ⟨fun y hy => ?_, ?_⟩
  · rcases List.mem_append.1 hy with hy | hy
    · exact h.ok y (List.mem_filter.1 hy).1
    · rcases List.mem_cons.1 hy with rfl | hy
      · exact hx
      · exact h.ok y (List.mem_filter.1 hy).1
  · rw [List.pairwise_append, List.pairwise_cons]
    refine ⟨h.so.filter _, ⟨fun c hc => ?_, h.so.filter _⟩, fun a ha c hc => ?_⟩
    · obtain ⟨c1, c2⟩ := List.mem_filter.1 hc
      exact ahd_asym hx (h.ok c c1) c2
    · obtain ⟨a1, a2⟩ := List.mem_filter.1 ha
      have a3 : ahd x a = false := by simpa using a2
      rcases List.mem_cons.1 hc with rfl | hc
      · exact a3
      · obtain ⟨c1, c2⟩ := List.mem_filter.1 hc
        by_cases e : ahd c a = true
        · rw [ahd_trans hx (h.ok c c1) (h.ok a a1) c2 e] at a3
          cases a3
        · simpa using e
theorem ent_filter {s : Int} {x : It} {l : List It} (h : So s l) (hx : Ik s x) {P : It → Bool} (hP : P x = true) : ent x (l.filter P) = (ent x l).filter P := by
  rw [ent_split (h.filter P) hx, ent_split h hx, List.filter_append, List.filter_cons, if_pos hP, List.filter_filter, List.filter_filter, List.filter_filter, List.filter_filter]
  congr 1
  · exact List.filter_congr (fun y _ => Bool.and_comm _ _)
  · congr 1
    exact List.filter_congr (fun y _ => Bool.and_comm _ _)
theorem ent_gone {x : It} {l : List It} {P : It → Bool} (hP : P x = false) : (ent x l).filter P = l.filter P := by
  unfold ent ins
  rw [List.filter_append, List.filter_cons, if_neg (by simp [hP]), ← List.filter_append, List.take_append_drop]
/-- a side's interests in their priority, out of those that were entered. -/
def iso (s : Int) (L : List It) : List It := (L.filter (fun x => x.sd == s)).foldl (fun l x => ent x l) []
theorem fol_so {s : Int} : ∀ {xs acc : List It}, So s acc → (∀ x ∈ xs, Ik s x) → So s (xs.foldl (fun l x => ent x l) acc)
  | [], _, h, _ => h
  | x :: xs, acc, h, hx => fol_so (xs := xs) (h.ent (hx x (by simp))) (fun y hy => hx y (by simp [hy]))
theorem fol_filter {s : Int} {P : It → Bool} : ∀ {xs acc : List It}, So s acc → (∀ x ∈ xs, Ik s x) → (xs.filter P).foldl (fun l x => ent x l) (acc.filter P) = (xs.foldl (fun l x => ent x l) acc).filter P
  | [], _, _, _ => rfl
  | x :: xs, acc, h, hx => by
    have hk := hx x (by simp)
    have ih := fol_filter (P := P) (xs := xs) (h.ent hk) (fun y hy => hx y (by simp [hy]))
    rw [List.filter_cons, List.foldl_cons]
    by_cases hP : P x = true
    · rw [if_pos hP, List.foldl_cons, ent_filter h hk hP]
      exact ih
    · rw [if_neg hP, ← ih, ent_gone (by simpa using hP)]
theorem side_ok {s : Int} {L : List It} (h : ∀ x ∈ L, Ik x.sd x) : ∀ x ∈ L.filter (fun x => x.sd == s), Ik s x := fun x hx => by
  obtain ⟨h1, h2⟩ := List.mem_filter.1 hx
  have e : x.sd = s := by simpa using h2
  rw [← e]
  exact h x h1
theorem iso_so {s : Int} {L : List It} (h : ∀ x ∈ L, Ik x.sd x) : So s (iso s L) := fol_so (So.nil s) (side_ok h)
theorem iso_filter {s : Int} {L : List It} (h : ∀ x ∈ L, Ik x.sd x) (P : It → Bool) : iso s (L.filter P) = (iso s L).filter P := by
  unfold iso
  rw [← fol_filter (P := P) (So.nil s) (side_ok h), List.filter_nil, List.filter_filter, List.filter_filter]
  congr 1
  exact List.filter_congr (fun y _ => Bool.and_comm _ _)
theorem bh_map {f : It → It} (hf : ∀ x, (f x).sd = x.sd ∧ (f x).ty = x.ty ∧ (f x).pr = x.pr) (x : It) (l : List It) : bh (f x) (l.map f) = bh x l := by
  have ha : ∀ y, ahd (f x) (f y) = ahd x y := fun y => by unfold ahd; rw [(hf x).1, (hf x).2.1, (hf x).2.2, (hf y).2.1, (hf y).2.2]
  unfold bh
  rw [List.takeWhile_map, List.length_map]
  congr 2
  funext y
  simp [ha]
theorem ent_map {f : It → It} (hf : ∀ x, (f x).sd = x.sd ∧ (f x).ty = x.ty ∧ (f x).pr = x.pr) (x : It) (l : List It) : ent (f x) (l.map f) = (ent x l).map f := by
  unfold ent
  rw [bh_map hf]
  unfold ins
  simp [List.map_take, List.map_drop]
theorem fol_map {f : It → It} (hf : ∀ x, (f x).sd = x.sd ∧ (f x).ty = x.ty ∧ (f x).pr = x.pr) : ∀ (xs acc : List It), (xs.map f).foldl (fun l x => ent x l) (acc.map f) = (xs.foldl (fun l x => ent x l) acc).map f
  | [], _ => rfl
  | x :: xs, acc => by
    rw [List.map_cons, List.foldl_cons, List.foldl_cons, ent_map hf]
    exact fol_map hf xs _
theorem iso_map {f : It → It} (hf : ∀ x, (f x).sd = x.sd ∧ (f x).ty = x.ty ∧ (f x).pr = x.pr) (s : Int) (L : List It) : iso s (L.map f) = (iso s L).map f := by
  unfold iso
  rw [← fol_map hf, List.filter_map, List.map_nil]
  congr 3
  funext y
  simp [(hf y).1]
theorem iso_snoc (s : Int) (L : List It) (x : It) : iso s (L ++ [x]) = if x.sd = s then ent x (iso s L) else iso s L := by
  unfold iso
  rw [List.filter_append, List.foldl_append, List.filter_cons]
  by_cases h : x.sd = s
  · rw [if_pos h, if_pos (by simpa using h)]; rfl
  · rw [if_neg h, if_neg (by simpa using h)]; rfl
theorem ent_perm (x : It) (l : List It) : (ent x l).Perm (x :: l) := ins_perm _ x l
theorem fol_perm : ∀ (xs acc : List It), (xs.foldl (fun l x => ent x l) acc).Perm (acc ++ xs)
  | [], acc => by simp
  | x :: xs, acc => by
    rw [List.foldl_cons]
    refine (fol_perm xs (ent x acc)).trans ?_
    refine ((ent_perm x acc).append_right xs).trans ?_
    exact (List.perm_middle (a := x) (l₁ := acc) (l₂ := xs)).symm
theorem iso_perm (s : Int) (L : List It) : (iso s L).Perm (L.filter (fun x => x.sd == s)) := by
  have := fol_perm (L.filter (fun x => x.sd == s)) []
  simpa [iso] using this
theorem iso_none {s : Int} {L : List It} (h : ∀ x ∈ L, x.sd = 1 ∨ x.sd = 2) (h1 : s ≠ 1) (h2 : s ≠ 2) : iso s L = [] := by
  unfold iso
  rw [List.filter_eq_nil_iff.2 (fun x hx => by rcases h x hx with e | e <;> (rw [e]; simp; omega))]
  rfl
theorem tot_perm {a b : List It} (h : a.Perm b) : tot a = tot b := by
  induction h with
  | nil => rfl
  | cons x _ ih => rw [tot_cons, tot_cons, ih]
  | swap x y l => rw [tot_cons, tot_cons, tot_cons, tot_cons]; omega
  | trans _ _ h1 h2 => exact h1.trans h2
/-- who buys at a price; who sells there. -/
def vb (p : Int) (x : It) : Bool := x.sd == 1 && acc p x
def vs (p : Int) (x : It) : Bool := x.sd == 2 && acc p x
theorem wd_b {p : Int} {L : List It} (h : Sd 1 (iso 1 L)) : wd p (iso 1 L) = tot (L.filter (vb p)) := by
  rw [wd_filter h, tot_perm ((iso_perm 1 L).filter _), List.filter_filter]
  congr 1
  exact List.filter_congr (fun y _ => by unfold vb; exact Bool.and_comm _ _)
theorem wd_s {p : Int} {L : List It} (h : Sd 2 (iso 2 L)) : wd p (iso 2 L) = tot (L.filter (vs p)) := by
  rw [wd_filter h, tot_perm ((iso_perm 2 L).filter _), List.filter_filter]
  congr 1
  exact List.filter_congr (fun y _ => by unfold vs; exact Bool.and_comm _ _)
end Go.Proofs.YtnmkfdndfhefiaaGreat
namespace Go.Proofs.YtnmkfdndfhefiaaGreat
open Go.RowKit Go.Deep Go.Shelf
set_option linter.unusedVariables false
set_option linter.unusedSimpArgs false
theorem mem_cpt {zs : List Int} {x : Int} (h : x ∈ zs) : x ∈ cpt zs := by
  have go : ∀ m, m ≤ zs.length → ∀ k, k < m → zs.toArray[k]! ∈ Lib.compactUpTo zs.toArray m := by
    intro m
    induction m with
    | zero => intro _ k hk; omega
    | succ m ih =>
      intro hm k hk
      rw [Lib.compactUpTo_succ, List.mem_append]
      by_cases e : k = m
      · subst e
        by_cases hc : Lib.keeps zs.toArray k = true
        · exact .inr (by rw [if_pos hc]; simp)
        · left
          unfold Lib.keeps at hc
          simp only [decide_eq_true_eq, not_or, Decidable.not_not] at hc
          rw [hc.2]
          exact ih (by omega) (k - 1) (by omega)
      · exact .inl (ih (by omega) k (by omega))
  obtain ⟨k, hk, rfl⟩ := List.getElem_of_mem h
  have := go zs.length (Nat.le_refl _) k hk
  rw [getElem!_pos zs.toArray k (by simpa using hk)] at this
  unfold cpt Lib.compact
  simpa using this
theorem srt_pw (zs : List Int) : (srt zs).Pairwise (fun x y => x ≤ y) := by
  have := List.pairwise_mergeSort (le := fun x y : Int => decide (x ≤ y)) (fun a b c h1 h2 => by simp at *; omega) (fun a b => by simp; omega) zs
  exact this.imp (fun h => by simpa using h)
theorem cpt_pw {zs : List Int} (h : zs.Pairwise (fun x y => x ≤ y)) : (cpt zs).Pairwise (fun x y => x < y) := by
  have at' : ∀ k, k < zs.length → zs.toArray[k]! = zs[k]! := fun k hk => by
    rw [getElem!_pos zs.toArray k (by simpa using hk), getElem!_pos zs k hk]
    simp
  have le : ∀ i j, i ≤ j → j < zs.length → zs[i]! ≤ zs[j]! := fun i j hij hj => by
    rw [getElem!_pos zs i (by omega), getElem!_pos zs j hj]
    rcases Nat.lt_or_ge i j with hl | hl
    · exact List.pairwise_iff_getElem.1 h i j (by omega) hj hl
    · obtain rfl : i = j := by omega
      exact Int.le_refl _
  have go : ∀ m, m ≤ zs.length → (Lib.compactUpTo zs.toArray m).Pairwise (fun x y => x < y) ∧ ∀ x ∈ Lib.compactUpTo zs.toArray m, ∃ k, k < m ∧ x = zs[k]! := by
    intro m
    induction m with
    | zero => intro _; exact ⟨by simp [Lib.compactUpTo], by simp [Lib.compactUpTo]⟩
    | succ m ih =>
      intro hm
      obtain ⟨i1, i2⟩ := ih (by omega)
      rw [Lib.compactUpTo_succ]
      by_cases hc : Lib.keeps zs.toArray m = true
      · rw [if_pos hc]
        refine ⟨?_, fun x hx => ?_⟩
        · rw [List.pairwise_append]
          refine ⟨i1, by simp, fun a ha c hcc => ?_⟩
          simp only [List.mem_singleton] at hcc
          subst hcc
          obtain ⟨k, hk, rfl⟩ := i2 a ha
          unfold Lib.keeps at hc
          simp only [decide_eq_true_eq] at hc
          rcases hc with hc | hc
          · omega
          · rw [at' m (by omega), at' (m - 1) (by omega)] at hc
            rw [at' m (by omega)]
            have a1 := le k (m - 1) (by omega) (by omega)
            have a2 := le (m - 1) m (by omega) (by omega)
            have : zs[m - 1]! ≠ zs[m]! := fun e => hc e.symm
            omega
        · rcases List.mem_append.1 hx with hx | hx
          · obtain ⟨k, hk, e⟩ := i2 x hx
            exact ⟨k, by omega, e⟩
          · simp only [List.mem_singleton] at hx
            exact ⟨m, by omega, by rw [hx, at' m (by omega)]⟩
      · rw [if_neg hc, List.append_nil]
        exact ⟨i1, fun x hx => by obtain ⟨k, hk, e⟩ := i2 x hx; exact ⟨k, by omega, e⟩⟩
  have := (go zs.length (Nat.le_refl _)).1
  unfold cpt Lib.compact
  simpa using this
theorem pcs_pw (r : Int) (b s : List It) : (pcs r b s).Pairwise (fun x y => x < y) := cpt_pw (srt_pw _)
theorem mem_pcs {r : Int} {b s : List It} {x : Int} : x ∈ pcs r b s ↔ x ∈ r :: lp b ++ lp s := ⟨fun h => srt_mem.1 (cpt_mem h), fun h => mem_cpt (srt_mem.2 h)⟩
theorem mem_lp {l : List It} {x : Int} : x ∈ lp l ↔ ∃ y ∈ l, y.ty = 1 ∧ y.pr = x := by
  unfold lp
  rw [List.mem_map]
  constructor
  · rintro ⟨y, hy, e⟩
    obtain ⟨h1, h2⟩ := List.mem_filter.1 hy
    exact ⟨y, h1, by simpa using h2, e⟩
  · rintro ⟨y, h1, h2, e⟩
    exact ⟨y, List.mem_filter.2 ⟨h1, by simpa using h2⟩, e⟩
/-- the document's prices that may be chosen. -/
def dst1 (ps : List Int) (x : It) : List Int := if x.ty = 2 ∨ x.pr ∈ ps then ps else ps ++ [x.pr]
def dps (r : Int) (L : List It) : List Int := L.foldl dst1 [r]
theorem dps_inv (r : Int) : ∀ (L : List It) (ps : List Int), ps.Nodup → (L.foldl dst1 ps).Nodup ∧ ∀ p, p ∈ L.foldl dst1 ps ↔ p ∈ ps ∨ ∃ x ∈ L, x.ty ≠ 2 ∧ x.pr = p
  | [], ps, h => ⟨h, fun p => by simp⟩
  | x :: L, ps, h => by
    rw [List.foldl_cons]
    by_cases hc : x.ty = 2 ∨ x.pr ∈ ps
    · have e : dst1 ps x = ps := by unfold dst1; rw [if_pos hc]
      rw [e]
      obtain ⟨i1, i2⟩ := dps_inv r L ps h
      refine ⟨i1, fun p => ?_⟩
      rw [i2]
      constructor
      · rintro (h1 | ⟨y, h1, h2, h3⟩)
        · exact .inl h1
        · exact .inr ⟨y, by simp [h1], h2, h3⟩
      · rintro (h1 | ⟨y, h1, h2, h3⟩)
        · exact .inl h1
        · rcases List.mem_cons.1 h1 with rfl | h1
          · rcases hc with hc | hc
            · exact absurd hc h2
            · exact .inl (h3 ▸ hc)
          · exact .inr ⟨y, h1, h2, h3⟩
    · have e : dst1 ps x = ps ++ [x.pr] := by unfold dst1; rw [if_neg hc]
      rw [e]
      have hc1 : x.ty ≠ 2 := fun e => hc (.inl e)
      have hc2 : x.pr ∉ ps := fun e => hc (.inr e)
      obtain ⟨i1, i2⟩ := dps_inv r L (ps ++ [x.pr]) (by
        rw [List.nodup_append]
        refine ⟨h, by simp, fun a ha c hcc e => ?_⟩
        simp only [List.mem_singleton] at hcc
        exact hc2 (by rw [← hcc, ← e]; exact ha))
      refine ⟨i1, fun p => ?_⟩
      rw [i2]
      constructor
      · rintro (h1 | ⟨y, h1, h2, h3⟩)
        · rcases List.mem_append.1 h1 with h1 | h1
          · exact .inl h1
          · simp only [List.mem_singleton] at h1
            exact .inr ⟨x, by simp, hc1, h1.symm⟩
        · exact .inr ⟨y, by simp [h1], h2, h3⟩
      · rintro (h1 | ⟨y, h1, h2, h3⟩)
        · exact .inl (by simp [h1])
        · rcases List.mem_cons.1 h1 with rfl | h1
          · exact .inl (by simp [h3])
          · exact .inr ⟨y, h1, h2, h3⟩
theorem dps_perm {r : Int} {L : List It} (h : ∀ x ∈ L, Ik x.sd x ∧ (x.sd = 1 ∨ x.sd = 2)) : (dps r L).Perm (pcs r (iso 1 L) (iso 2 L)) := by
  obtain ⟨h1, h2⟩ := dps_inv r L [r] (by simp)
  have hn : (pcs r (iso 1 L) (iso 2 L)).Nodup := (pcs_pw r _ _).imp (fun h => by omega)
  refine (List.perm_ext_iff_of_nodup h1 hn).2 (fun p => ?_)
  rw [h2, mem_pcs]
  simp only [List.mem_singleton, List.cons_append, List.mem_cons, List.mem_append, mem_lp, List.not_mem_nil, or_false]
  have m1 : ∀ (s : Int) (y : It), y ∈ iso s L ↔ y ∈ L ∧ y.sd = s := fun s y => by rw [(iso_perm s L).mem_iff, List.mem_filter]; simp
  constructor
  · rintro (e | ⟨x, hx, ht, e⟩)
    · exact .inl e
    · have hk := h x hx
      have ht' : x.ty = 1 := by rcases hk.1.ty with e | e; exact e; exact absurd e ht
      rcases hk.2 with hs | hs
      · exact .inr (.inl ⟨x, (m1 1 x).2 ⟨hx, hs⟩, ht', e⟩)
      · exact .inr (.inr ⟨x, (m1 2 x).2 ⟨hx, hs⟩, ht', e⟩)
  · rintro (e | ⟨x, hx, ht, e⟩ | ⟨x, hx, ht, e⟩)
    · exact .inl e
    · exact .inr ⟨x, ((m1 1 x).1 hx).1, by omega, e⟩
    · exact .inr ⟨x, ((m1 2 x).1 hx).1, by omega, e⟩
/-- the most that would be traded. -/
def mxv (D : List Qt) : Int := D.foldl (fun m z => if m < z.vo then z.vo else m) 0
theorem mx_inv : ∀ (D : List Qt) (m : Int), m ≤ D.foldl (fun m z => if m < z.vo then z.vo else m) m ∧ (∀ z ∈ D, z.vo ≤ D.foldl (fun m z => if m < z.vo then z.vo else m) m) ∧ (D.foldl (fun m z => if m < z.vo then z.vo else m) m = m ∨ ∃ z ∈ D, z.vo = D.foldl (fun m z => if m < z.vo then z.vo else m) m)
  | [], m => ⟨Int.le_refl _, by simp, .inl rfl⟩
  | z :: D, m => by
    rw [List.foldl_cons]
    obtain ⟨u, hu⟩ : ∃ u, (if m < z.vo then z.vo else m) = u := ⟨_, rfl⟩
    have hu' : m ≤ u ∧ z.vo ≤ u ∧ (u = m ∨ u = z.vo) := by split at hu <;> omega
    rw [hu]
    clear hu
    obtain ⟨h1, h2, h3⟩ := mx_inv D u
    refine ⟨by omega, fun y hy => ?_, ?_⟩
    · rcases List.mem_cons.1 hy with rfl | hy
      · omega
      · exact h2 y hy
    · rcases h3 with h3 | ⟨y, hy, e⟩
      · rw [h3]
        rcases hu'.2.2 with e | e
        · exact .inl e
        · exact .inr ⟨z, by simp, e.symm⟩
      · exact .inr ⟨y, by simp [hy], e⟩
/-- the least surplus. -/
def lsu (F : List Qt) : Int := F.foldl (fun m z => if z.su < m then z.su else m) (F.headD q0).su
theorem ls_inv : ∀ (D : List Qt) (m : Int), D.foldl (fun m z => if z.su < m then z.su else m) m ≤ m ∧ (∀ z ∈ D, D.foldl (fun m z => if z.su < m then z.su else m) m ≤ z.su) ∧ (D.foldl (fun m z => if z.su < m then z.su else m) m = m ∨ ∃ z ∈ D, z.su = D.foldl (fun m z => if z.su < m then z.su else m) m)
  | [], m => ⟨Int.le_refl _, by simp, .inl rfl⟩
  | z :: D, m => by
    rw [List.foldl_cons]
    obtain ⟨u, hu⟩ : ∃ u, (if z.su < m then z.su else m) = u := ⟨_, rfl⟩
    have hu' : u ≤ m ∧ u ≤ z.su ∧ (u = m ∨ u = z.su) := by split at hu <;> omega
    rw [hu]
    clear hu
    obtain ⟨h1, h2, h3⟩ := ls_inv D u
    refine ⟨by omega, fun y hy => ?_, ?_⟩
    · rcases List.mem_cons.1 hy with rfl | hy
      · omega
      · exact h2 y hy
    · rcases h3 with h3 | ⟨y, hy, e⟩
      · rw [h3]
        rcases hu'.2.2 with e | e
        · exact .inl e
        · exact .inr ⟨z, by simp, e.symm⟩
      · exact .inr ⟨y, by simp [hy], e⟩
/-- which of two the document's last rules choose. -/
def btr' (r : Int) (one : Bool) (best x : Qt) : Bool := (one && best.sd == 1 && decide (best.pr < x.pr) || one && best.sd == 2 && decide (x.pr < best.pr)) || (!one || best.sd == 0) && (decide (dst r x < dst r best) || dst r x == dst r best && decide (x.pr < best.pr))
def bs1 (r : Int) (one : Bool) (best x : Qt) : Qt := if btr' r one best x = true then x else best
def bsf (r : Int) (one : Bool) (S : List Qt) : Qt := S.foldl (bs1 r one) (S.headD q0)
def onf (S : List Qt) : Bool := S.all (fun x => x.sd == (S.headD q0).sd)
/-- the document's quote of its candidates. -/
def dqs (r : Int) (S : List Qt) : Qt :=
  if S.length = 1 then { S.headD q0 with ru := 2 } else if onf S = true ∧ (bsf r (onf S) S).sd ≠ 0 then { bsf r (onf S) S with ru := 3 } else { bsf r (onf S) S with ru := 4 }
def dqf (r : Int) (F : List Qt) : Qt := if F.length = 1 then { F.headD q0 with ru := 1 } else dqs r (F.filter fun z => decide (z.su = lsu F))
def dqt (r : Int) (D : List Qt) : Option Qt := if mxv D = 0 then none else some (dqf r (D.filter fun z => decide (z.vo = mxv D)))
/-- a fold that chooses gives one that none is better than. -/
theorem ch_inv {R : Qt → Qt → Prop} {f : Qt → Qt → Qt} {T : List Qt} (htr : ∀ x ∈ T, ∀ y ∈ T, ∀ z ∈ T, R x y → R y z → R x z) (hir : ∀ x ∈ T, ¬ R x x) (hf : ∀ b ∈ T, ∀ x ∈ T, (R x b ∧ f b x = x) ∨ (¬ R x b ∧ f b x = b)) :
    ∀ (S : List Qt) (b : Qt), b ∈ T → (∀ x ∈ S, x ∈ T) → S.foldl f b ∈ T ∧ (S.foldl f b = b ∨ R (S.foldl f b) b) ∧ ∀ y ∈ S, ¬ R y (S.foldl f b)
  | [], b, hb, _ => ⟨hb, .inl rfl, by simp⟩
  | x :: S, b, hb, hS => by
    rw [List.foldl_cons]
    have hx := hS x (by simp)
    have hS' : ∀ y ∈ S, y ∈ T := fun y hy => hS y (by simp [hy])
    rcases hf b hb x hx with ⟨h1, e⟩ | ⟨h1, e⟩
    · rw [e]
      obtain ⟨i1, i2, i3⟩ := ch_inv htr hir hf S x hx hS'
      refine ⟨i1, .inr ?_, fun y hy => ?_⟩
      · rcases i2 with i2 | i2
        · rw [i2]; exact h1
        · exact htr _ i1 x hx b hb i2 h1
      · rcases List.mem_cons.1 hy with rfl | hy
        · rcases i2 with i2 | i2
          · rw [i2]; exact hir _ hx
          · exact fun e => hir _ i1 (htr _ i1 _ hx _ i1 i2 e)
        · exact i3 y hy
    · rw [e]
      obtain ⟨i1, i2, i3⟩ := ch_inv htr hir hf S b hb hS'
      refine ⟨i1, i2, fun y hy => ?_⟩
      rcases List.mem_cons.1 hy with rfl | hy
      · rcases i2 with i2 | i2
        · rw [i2]; exact h1
        · exact fun e => h1 (htr _ hx _ i1 b hb e i2)
      · exact i3 y hy
theorem perm_one {α : Type} {a b : List α} (h : a.Perm b) (hl : a.length = 1) (d : α) : a.headD d = b.headD d := by
  match a, hl with
  | [x], _ => rw [List.singleton_perm.1 h]
theorem pr_inj {T : List Qt} (h : T.Pairwise fun x y => x.pr < y.pr) {x y : Qt} (hx : x ∈ T) (hy : y ∈ T) (e : x.pr = y.pr) : x = y := by
  obtain ⟨i, hi, rfl⟩ := List.getElem_of_mem hx
  obtain ⟨j, hj, rfl⟩ := List.getElem_of_mem hy
  rcases Nat.lt_trichotomy i j with hl | hl | hl
  · have := List.pairwise_iff_getElem.1 h i j hi hj hl; omega
  · subst hl; rfl
  · have := List.pairwise_iff_getElem.1 h j i hj hi hl; omega
theorem head_least {T : List Qt} (h : T.Pairwise fun x y => x.pr < y.pr) (h0 : 0 < T.length) : ∀ y ∈ T, (T.headD q0).pr ≤ y.pr := by
  cases T with
  | nil => simp at h0
  | cons a T =>
    intro y hy
    rcases List.mem_cons.1 hy with rfl | hy
    · exact Int.le_refl _
    · have := (List.pairwise_cons.1 h).1 y hy; show a.pr ≤ y.pr; omega
theorem last_most {T : List Qt} (h : T.Pairwise fun x y => x.pr < y.pr) (h0 : 0 < T.length) : ∀ y ∈ T, y.pr ≤ (T.getLastD q0).pr := by
  intro y hy
  rw [← lastD_at h0]
  obtain ⟨i, hi, rfl⟩ := List.getElem_of_mem hy
  rcases Nat.lt_or_ge i (T.length - 1) with hl | hl
  · have := List.pairwise_iff_getElem.1 h i (T.length - 1) hi (by omega) hl; omega
  · obtain rfl : i = T.length - 1 := by omega
    exact Int.le_refl _
theorem bst_spec {f : Qt → Int} {l : List Qt} {x : Qt} (h : x ∈ bst f l) : ∀ y ∈ l, f x ≤ f y := by
  intro y hy
  have h1 := (List.mem_filter.1 h).2
  simp only [decide_eq_true_eq] at h1
  obtain ⟨k, hk, rfl⟩ := List.getElem_of_mem hy
  have := mn_le (f := f) (l := l) l.length (Nat.le_refl _) k hk hk
  omega
theorem bst_of {f : Qt → Int} {l : List Qt} {x : Qt} (hx : x ∈ l) (h : ∀ y ∈ l, f x ≤ f y) : x ∈ bst f l := by
  refine List.mem_filter.2 ⟨hx, ?_⟩
  have h0 := List.length_pos_of_mem hx
  have h1 := h _ (mn_mem (f := f) h0 l.length (Nat.le_refl _))
  obtain ⟨k, hk, rfl⟩ := List.getElem_of_mem hx
  have := mn_le (f := f) (l := l) l.length (Nat.le_refl _) k hk hk
  simp only [decide_eq_true_eq]
  omega
theorem bst_eq {f : Qt → Int} {l : List Qt} {c : Int} (h1 : ∃ x ∈ l, f x = c) (h2 : ∀ x ∈ l, c ≤ f x) : bst f l = l.filter (fun x => decide (f x = c)) := by
  obtain ⟨x, hx, e⟩ := h1
  have h0 := List.length_pos_of_mem hx
  have a1 := h2 _ (mn_mem (f := f) h0 l.length (Nat.le_refl _))
  obtain ⟨k, hk, rfl⟩ := List.getElem_of_mem hx
  have := mn_le (f := f) (l := l) l.length (Nat.le_refl _) k hk hk
  have e2 : f (mn f l l.length) = c := by omega
  unfold bst
  rw [e2]
theorem headD_in {l : List Qt} (h : 0 < l.length) : l.headD q0 ∈ l := by rw [← headD_at h]; exact List.getElem_mem h
theorem prs_of {T : List Qt} (h0 : 0 < T.length) : prs T = if onf T = true then (T.headD q0).sd else 0 := rfl
theorem onf_iff {S : List Qt} (h0 : 0 < S.length) : onf S = true ↔ ∀ x ∈ S, ∀ y ∈ S, x.sd = y.sd := by
  unfold onf
  rw [List.all_eq_true]
  constructor
  · intro h x hx y hy
    have a := h x hx
    have b := h y hy
    simp only [beq_iff_eq] at a b
    omega
  · intro h x hx
    simpa using h x hx _ (headD_in h0)
/-- the last rules choose the same. -/
theorem dqs_eq {r : Int} {S T : List Qt} (hp : S.Perm T) (hT : T.Pairwise fun x y => x.pr < y.pr) (h0 : 0 < T.length) (hs : ∀ x ∈ T, x.sd = 0 ∨ x.sd = 1 ∨ x.sd = 2) :
    dqs r S = if T.length = 1 then { T.headD q0 with ru := 2 } else if prs T = 1 then { T.getLastD q0 with ru := 3 } else if prs T = 2 then { T.headD q0 with ru := 3 } else { (bst (fun z => max (z.pr - r) (r - z.pr)) T).headD q0 with ru := 4 } := by
  have hl := hp.length_eq
  have hS0 : 0 < S.length := by omega
  have hm : ∀ x, x ∈ S ↔ x ∈ T := fun x => hp.mem_iff
  unfold dqs
  by_cases h1 : T.length = 1
  · rw [if_pos (by omega), if_pos h1, perm_one hp (by omega)]
  · rw [if_neg (by omega), if_neg h1]
    have hon : onf S = onf T := by
      rw [Bool.eq_iff_iff, onf_iff hS0, onf_iff h0]
      exact ⟨fun h x hx y hy => h x ((hm x).2 hx) y ((hm y).2 hy), fun h x hx y hy => h x ((hm x).1 hx) y ((hm y).1 hy)⟩
    have hST : ∀ x ∈ S, x ∈ T := fun x hx => (hm x).1 hx
    have hhead : S.headD q0 ∈ T := hST _ (headD_in hS0)
    rw [prs_of h0, hon]
    by_cases ho : onf T = true
    · have hall := (onf_iff h0).1 ho
      have hsd : ∀ x ∈ T, x.sd = (T.headD q0).sd := fun x hx => hall x hx _ (headD_in h0)
      rw [if_pos ho, ho]
      rcases hs _ (headD_in h0) with e | e | e
      · rw [e, if_neg (show ¬ (0 : Int) = 1 by decide), if_neg (show ¬ (0 : Int) = 2 by decide)]
        have := ch_inv (R := fun x b => dst r x < dst r b ∨ dst r x = dst r b ∧ x.pr < b.pr) (f := bs1 r true) (T := T) (fun x _ y _ z _ h1 h2 => by omega) (fun x _ h => by omega) (fun b hb x hx => by
          have e1 : b.sd = 0 := by rw [hsd b hb, e]
          unfold bs1 btr'
          rw [e1]
          by_cases hc : dst r x < dst r b ∨ dst r x = dst r b ∧ x.pr < b.pr
          · refine .inl ⟨hc, if_pos ?_⟩
            simpa using hc
          · refine .inr ⟨hc, if_neg ?_⟩
            simpa using hc) S (S.headD q0) hhead hST
        obtain ⟨i1, i2, i3⟩ := this
        change bsf r true S ∈ T at i1
        have i3' : ∀ y ∈ T, ¬ (dst r y < dst r (bsf r true S) ∨ dst r y = dst r (bsf r true S) ∧ y.pr < (bsf r true S).pr) := fun y hy => i3 y ((hm y).2 hy)
        have e0 : (bsf r true S).sd = 0 := by rw [hsd _ i1, e]
        rw [if_neg (show ¬ (true = true ∧ (bsf r true S).sd ≠ 0) by rw [e0]; simp)]
        have hb : bsf r true S ∈ bst (fun z => max (z.pr - r) (r - z.pr)) T := bst_of i1 (fun y hy => by have := i3' y hy; show dst r (bsf r true S) ≤ dst r y; omega)
        have hpw : (bst (fun z => max (z.pr - r) (r - z.pr)) T).Pairwise fun x y => x.pr < y.pr := hT.filter _
        have hb0 := List.length_pos_of_mem hb
        have hh := headD_in hb0
        have e5 : bsf r true S = (bst (fun z => max (z.pr - r) (r - z.pr)) T).headD q0 := by
          refine pr_inj hpw hb hh ?_
          have a1 := head_least hpw hb0 _ hb
          have a2 : dst r ((bst (fun z => max (z.pr - r) (r - z.pr)) T).headD q0) ≤ dst r (bsf r true S) := bst_spec hh _ i1
          have a3 := i3' _ (bst_mem hh)
          omega
        rw [e5]
      · rw [e, if_pos (show (1 : Int) = 1 from rfl)]
        have := ch_inv (R := fun x b => b.pr < x.pr) (f := bs1 r true) (T := T) (fun x _ y _ z _ h1 h2 => by omega) (fun x _ h => by omega) (fun b hb x hx => by
          have e1 : b.sd = 1 := by rw [hsd b hb, e]
          unfold bs1 btr'
          rw [e1]
          by_cases hc : b.pr < x.pr
          · refine .inl ⟨hc, if_pos ?_⟩
            simpa using hc
          · refine .inr ⟨hc, if_neg ?_⟩
            simpa using hc) S (S.headD q0) hhead hST
        obtain ⟨i1, i2, i3⟩ := this
        change bsf r true S ∈ T at i1
        have i3' : ∀ y ∈ T, ¬ (bsf r true S).pr < y.pr := fun y hy => i3 y ((hm y).2 hy)
        have e0 : (bsf r true S).sd = 1 := by rw [hsd _ i1, e]
        rw [if_pos (show true = true ∧ (bsf r true S).sd ≠ 0 from ⟨rfl, by rw [e0]; decide⟩)]
        have hh : T.getLastD q0 ∈ T := by rw [← lastD_at h0]; exact List.getElem_mem _
        have e5 : bsf r true S = T.getLastD q0 := by
          refine pr_inj hT i1 hh ?_
          have a1 := last_most hT h0 _ i1
          have a2 := i3' _ hh
          omega
        rw [e5]
      · rw [e, if_neg (show ¬ (2 : Int) = 1 by decide), if_pos (show (2 : Int) = 2 from rfl)]
        have := ch_inv (R := fun x b => x.pr < b.pr) (f := bs1 r true) (T := T) (fun x _ y _ z _ h1 h2 => by omega) (fun x _ h => by omega) (fun b hb x hx => by
          have e1 : b.sd = 2 := by rw [hsd b hb, e]
          unfold bs1 btr'
          rw [e1]
          by_cases hc : x.pr < b.pr
          · refine .inl ⟨hc, if_pos ?_⟩
            simpa using hc
          · refine .inr ⟨hc, if_neg ?_⟩
            simpa using hc) S (S.headD q0) hhead hST
        obtain ⟨i1, i2, i3⟩ := this
        change bsf r true S ∈ T at i1
        have i3' : ∀ y ∈ T, ¬ y.pr < (bsf r true S).pr := fun y hy => i3 y ((hm y).2 hy)
        have e0 : (bsf r true S).sd = 2 := by rw [hsd _ i1, e]
        rw [if_pos (show true = true ∧ (bsf r true S).sd ≠ 0 from ⟨rfl, by rw [e0]; decide⟩)]
        have hh := headD_in h0
        have e5 : bsf r true S = T.headD q0 := by
          refine pr_inj hT i1 hh ?_
          have a1 := head_least hT h0 _ i1
          have a2 := i3' _ hh
          omega
        rw [e5]
    · have ho' : onf T = false := by simpa using ho
      rw [if_neg ho, ho', if_neg (show ¬ (false = true ∧ (bsf r false S).sd ≠ 0) by simp), if_neg (show ¬ (0 : Int) = 1 by decide), if_neg (show ¬ (0 : Int) = 2 by decide)]
      have := ch_inv (R := fun x b => dst r x < dst r b ∨ dst r x = dst r b ∧ x.pr < b.pr) (f := bs1 r false) (T := T) (fun x _ y _ z _ h1 h2 => by omega) (fun x _ h => by omega) (fun b hb x hx => by
        unfold bs1 btr'
        by_cases hc : dst r x < dst r b ∨ dst r x = dst r b ∧ x.pr < b.pr
        · refine .inl ⟨hc, if_pos ?_⟩
          simpa using hc
        · refine .inr ⟨hc, if_neg ?_⟩
          simpa using hc) S (S.headD q0) hhead hST
      obtain ⟨i1, i2, i3⟩ := this
      change bsf r false S ∈ T at i1
      have i3' : ∀ y ∈ T, ¬ (dst r y < dst r (bsf r false S) ∨ dst r y = dst r (bsf r false S) ∧ y.pr < (bsf r false S).pr) := fun y hy => i3 y ((hm y).2 hy)
      have hb : bsf r false S ∈ bst (fun z => max (z.pr - r) (r - z.pr)) T := bst_of i1 (fun y hy => by have := i3' y hy; show dst r (bsf r false S) ≤ dst r y; omega)
      have hpw : (bst (fun z => max (z.pr - r) (r - z.pr)) T).Pairwise fun x y => x.pr < y.pr := hT.filter _
      have hb0 := List.length_pos_of_mem hb
      have hh := headD_in hb0
      have e5 : bsf r false S = (bst (fun z => max (z.pr - r) (r - z.pr)) T).headD q0 := by
        refine pr_inj hpw hb hh ?_
        have a1 := head_least hpw hb0 _ hb
        have a2 : dst r ((bst (fun z => max (z.pr - r) (r - z.pr)) T).headD q0) ≤ dst r (bsf r false S) := bst_spec hh _ i1
        have a3 := i3' _ (bst_mem hh)
        omega
      rw [e5]
theorem dqf_eq {r : Int} {F G : List Qt} (hp : F.Perm G) (hG : G.Pairwise fun x y => x.pr < y.pr) (h0 : 0 < G.length) (hs : ∀ x ∈ G, x.sd = 0 ∨ x.sd = 1 ∨ x.sd = 2) : dqf r F = dcd r G := by
  have hl := hp.length_eq
  unfold dqf dcd
  by_cases h1 : G.length = 1
  · rw [if_pos (by omega), if_pos h1, perm_one hp (by omega)]
  · rw [if_neg (by omega), if_neg h1]
    have hF0 : 0 < F.length := by omega
    obtain ⟨a1, a2, a3⟩ := ls_inv F (F.headD q0).su
    have a3' : ∃ z ∈ F, z.su = lsu F := by
      rcases a3 with a3 | a3
      · exact ⟨_, headD_in hF0, a3.symm⟩
      · exact a3
    have eb : bst (fun z => z.su) G = G.filter (fun z => decide (z.su = lsu F)) := bst_eq (by obtain ⟨z, hz, e⟩ := a3'; exact ⟨z, hp.mem_iff.1 hz, e⟩) (fun x hx => a2 x (hp.mem_iff.2 hx))
    have hpos : 0 < (bst (fun z => z.su) G).length := bst_pos h0
    rw [dqs_eq (T := bst (fun z => z.su) G) (by rw [eb]; exact hp.filter _) (hG.filter _) hpos (fun x hx => hs x (bst_mem hx))]
theorem dqt_eq {r : Int} {D C : List Qt} (hp : D.Perm C) (hC : C.Pairwise fun x y => x.pr < y.pr) (h0 : 0 < C.length) (hs : ∀ x ∈ C, x.sd = 0 ∨ x.sd = 1 ∨ x.sd = 2) (hv : ∀ x ∈ C, 0 ≤ x.vo) :
    dqt r D = if ((bst (fun z => -z.vo) C).headD q0).vo = 0 then none else some (dcd r (bst (fun z => -z.vo) C)) := by
  obtain ⟨a1, a2, a3⟩ := mx_inv D 0
  have hb : 0 < (bst (fun z => -z.vo) C).length := bst_pos h0
  have hh := headD_in hb
  unfold dqt
  by_cases hz : mxv D = 0
  · rw [if_pos hz]
    have b1 := a2 _ (hp.mem_iff.2 (bst_mem hh))
    have b2 := hv _ (bst_mem hh)
    have b3 : ((bst (fun z => -z.vo) C).headD q0).vo ≤ mxv D := b1
    rw [if_pos (by omega)]
  · have a3' : ∃ z ∈ D, z.vo = mxv D := by
      rcases a3 with a3 | a3
      · exact absurd a3 hz
      · exact a3
    have a1' : 0 ≤ mxv D := a1
    have eb : bst (fun z => -z.vo) C = C.filter (fun z => decide (z.vo = mxv D)) := by
      rw [bst_eq (c := -mxv D) (by obtain ⟨z, hz, e⟩ := a3'; exact ⟨z, hp.mem_iff.1 hz, by rw [e]⟩) (fun x hx => by have h : x.vo ≤ mxv D := a2 x (hp.mem_iff.2 hx); omega)]
      refine List.filter_congr (fun x _ => ?_)
      rw [decide_eq_decide]
      omega
    have hne : ¬ ((bst (fun z => -z.vo) C).headD q0).vo = 0 := by
      rw [eb] at hh
      have := (List.mem_filter.1 hh).2
      simp only [decide_eq_true_eq] at this
      rw [eb, this]
      exact hz
    rw [if_neg hz, if_neg hne, dqf_eq (G := bst (fun z => -z.vo) C) (by rw [eb]; exact hp.filter _) (hC.filter _) hb (fun x hx => hs x (bst_mem hx))]
theorem wd_bound {s p : Int} {l : List It} (h : Sd s l) : 0 ≤ wd p l ∧ wd p l ≤ 17592186044416 := by
  rw [wd_filter h]
  have := tot_bound (s := s) (l := l.filter fun y => acc p y) (fun x hx => h.ok x (List.mem_filter.1 hx).1)
  have := List.length_filter_le (fun y => acc p y) l
  have := h.ln
  omega
/-- the document's candidates. -/
def dcs (r : Int) (L : List It) : List Qt := (dps r L).map fun p => qAt p (tot (L.filter (vb p))) (tot (L.filter (vs p)))
theorem qAt_p (p b s : Int) : (qAt p b s).pr = p := by unfold qAt; split; rfl; split; rfl; rfl
theorem qAt_s (p b s : Int) : (qAt p b s).sd = 0 ∨ (qAt p b s).sd = 1 ∨ (qAt p b s).sd = 2 := by unfold qAt; split; exact .inr (.inl rfl); split; exact .inr (.inr rfl); exact .inl rfl
theorem dqt_quo {r : Int} {L : List It} (h : ∀ x ∈ L, Ik x.sd x ∧ (x.sd = 1 ∨ x.sd = 2)) (h1 : Sd 1 (iso 1 L)) (h2 : Sd 2 (iso 2 L)) : dqt r (dcs r L) = quo r (iso 1 L) (iso 2 L) := by
  have hp : (dcs r L).Perm (cds r (iso 1 L) (iso 2 L)) := by
    have e : dcs r L = (dps r L).map fun p => qAt p (wd p (iso 1 L)) (wd p (iso 2 L)) := by
      unfold dcs
      congr 1
      funext p
      rw [wd_b h1, wd_s h2]
    rw [e]
    exact (dps_perm h).map _
  have hpw : (cds r (iso 1 L) (iso 2 L)).Pairwise fun x y => x.pr < y.pr := by
    unfold cds
    rw [List.pairwise_map]
    exact (pcs_pw r _ _).imp (fun h => by rw [qAt_p, qAt_p]; exact h)
  rw [dqt_eq hp hpw (by rw [cds_len]; exact pcs_pos _ _ _) (fun x hx => by obtain ⟨p, _, rfl⟩ := List.mem_map.1 hx; exact qAt_s _ _ _) (fun x hx => by
    obtain ⟨p, _, rfl⟩ := List.mem_map.1 hx
    rw [qAt_vo]
    have a := (wd_bound (p := p) h1).1
    have b := (wd_bound (p := p) h2).1
    omega)]
  rfl
end Go.Proofs.YtnmkfdndfhefiaaGreat
namespace Go.Proofs.YtnmkfdndfhefiaaGreat
open Go.RowKit Go.Deep Go.Shelf
set_option linter.unusedVariables false
set_option linter.unusedSimpArgs false
/-- interests that may have been entered. -/
structure Lk (L : List It) : Prop where
  ok : ∀ x ∈ L, Ik x.sd x ∧ (x.sd = 1 ∨ x.sd = 2)
  nd : (L.map (·.id)).Nodup
  ln : L.length ≤ 4096
theorem Lk.nil : Lk [] := ⟨by simp, by simp, by simp⟩
theorem Lk.ik {L : List It} (h : Lk L) : ∀ x ∈ L, Ik x.sd x := fun x hx => (h.ok x hx).1
theorem Lk.inj {L : List It} (h : Lk L) {x y : It} (hx : x ∈ L) (hy : y ∈ L) (e : x.id = y.id) : x = y := by
  obtain ⟨i, hi, rfl⟩ := List.getElem_of_mem hx
  obtain ⟨j, hj, rfl⟩ := List.getElem_of_mem hy
  have hn := List.pairwise_iff_getElem.1 h.nd
  rcases Nat.lt_trichotomy i j with hl | hl | hl
  · have := hn i j (by simpa using hi) (by simpa using hj) hl
    simp only [List.getElem_map] at this
    exact absurd e this
  · subst hl; rfl
  · have := hn j i (by simpa using hj) (by simpa using hi) hl
    simp only [List.getElem_map] at this
    exact absurd e.symm this
theorem mem_iso {s : Int} {L : List It} {x : It} : x ∈ iso s L ↔ x ∈ L ∧ x.sd = s := by rw [(iso_perm s L).mem_iff, List.mem_filter]; simp
theorem Lk.sd {L : List It} (h : Lk L) (s : Int) : Sd s (iso s L) := ⟨(iso_so h.ik).ok, (iso_so h.ik).so, Nat.le_trans (by rw [(iso_perm s L).length_eq]; exact List.length_filter_le _ _) h.ln⟩
theorem Lk.lens {L : List It} (h : Lk L) : (iso 1 L).length + (iso 2 L).length = L.length := by
  rw [(iso_perm 1 L).length_eq, (iso_perm 2 L).length_eq]
  have go : ∀ l : List It, (∀ x ∈ l, x.sd = 1 ∨ x.sd = 2) → (l.filter (fun x => x.sd == 1)).length + (l.filter (fun x => x.sd == 2)).length = l.length := by
    intro l
    induction l with
    | nil => intro _; rfl
    | cons x l ih =>
      intro hx
      have := ih (fun y hy => hx y (by simp [hy]))
      rw [List.filter_cons, List.filter_cons]
      rcases hx x (by simp) with e | e <;> simp [e] <;> omega
  exact go L (fun x hx => (h.ok x hx).2)
theorem Lk.filter {L : List It} (h : Lk L) (P : It → Bool) : Lk (L.filter P) := ⟨fun x hx => h.ok x (List.mem_filter.1 hx).1, h.nd.sublist (List.Sublist.map _ List.filter_sublist), Nat.le_trans (List.length_filter_le _ _) h.ln⟩
/-- the others. -/
def oth (id : Int) (L : List It) : List It := L.filter fun y => !(y.id == id)
/-- less of one. -/
def les (id n : Int) (L : List It) : List It := L.map fun y => if y.id = id then lss y n else y
theorem les_f (id n : Int) : ∀ x : It, (if x.id = id then lss x n else x).sd = x.sd ∧ (if x.id = id then lss x n else x).ty = x.ty ∧ (if x.id = id then lss x n else x).pr = x.pr := fun x => by split <;> exact ⟨rfl, rfl, rfl⟩
theorem oth_at {L : List It} (h : Lk L) {i : Nat} (hi : i < L.length) : L.take i ++ L.drop (i + 1) = oth L[i].id L := by
  have e : L = L.take i ++ L[i] :: L.drop (i + 1) := by rw [← List.drop_eq_getElem_cons hi, List.take_append_drop]
  have hn := List.pairwise_iff_getElem.1 h.nd
  have a1 : ∀ y ∈ L.take i, (!(y.id == L[i].id)) = true := fun y hy => by
    obtain ⟨j, hj, rfl⟩ := List.getElem_of_mem hy
    rw [List.length_take] at hj
    have := hn j i (by simp; omega) (by simpa using hi) (by omega)
    simp only [List.getElem_map] at this
    rw [List.getElem_take]
    simpa using this
  have a2 : ∀ y ∈ L.drop (i + 1), (!(y.id == L[i].id)) = true := fun y hy => by
    obtain ⟨j, hj, rfl⟩ := List.getElem_of_mem hy
    rw [List.length_drop] at hj
    have := hn i (i + 1 + j) (by simpa using hi) (by simp; omega) (by omega)
    simp only [List.getElem_map] at this
    rw [List.getElem_drop]
    have t : ¬ L[i + 1 + j].id = L[i].id := fun e => this e.symm
    simpa using t
  unfold oth
  conv => rhs; arg 2; rw [e]
  rw [List.filter_append, List.filter_cons, if_neg (by simp), List.filter_eq_self.2 a1, List.filter_eq_self.2 a2]
theorem les_at {L : List It} (h : Lk L) {i : Nat} (hi : i < L.length) (n : Int) : L.set i (lss L[i] n) = les L[i].id n L := by
  unfold les
  apply List.ext_getElem
  · simp
  · intro j h1 h2
    rw [List.length_set] at h1
    rw [List.getElem_set, List.getElem_map]
    by_cases e : i = j
    · subst e; rw [if_pos rfl, if_pos rfl]
    · rw [if_neg e, if_neg (fun ee => ?_)]
      have := h.inj (List.getElem_mem h1) (List.getElem_mem hi) ee
      have hn := List.pairwise_iff_getElem.1 h.nd
      rcases Nat.lt_or_ge i j with hl | hl
      · have := hn i j (by simpa using hi) (by simpa using h1) hl
        simp only [List.getElem_map] at this
        exact this ee.symm
      · have := hn j i (by simpa using h1) (by simpa using hi) (by omega)
        simp only [List.getElem_map] at this
        exact this ee
theorem Lk.oth {L : List It} (h : Lk L) (id : Int) : Lk (Go.Proofs.YtnmkfdndfhefiaaGreat.oth id L) := h.filter _
theorem Lk.les {L : List It} (h : Lk L) {x : It} (hx : x ∈ L) {n : Int} (h0 : 0 ≤ n) (hn : n < x.qt) : Lk (Go.Proofs.YtnmkfdndfhefiaaGreat.les x.id n L) := by
  refine ⟨fun y hy => ?_, ?_, ?_⟩
  · obtain ⟨z, hz, rfl⟩ := List.mem_map.1 hy
    have hk := h.ok z hz
    split
    · rename_i e
      obtain rfl := h.inj hz hx e
      exact ⟨hk.1.less h0 hn, hk.2⟩
    · exact hk
  · have e : (Go.Proofs.YtnmkfdndfhefiaaGreat.les x.id n L).map (·.id) = L.map (·.id) := by
      unfold Go.Proofs.YtnmkfdndfhefiaaGreat.les
      rw [List.map_map]
      congr 1
      funext y
      show (if y.id = x.id then lss y n else y).id = y.id
      split <;> rfl
    rw [e]
    exact h.nd
  · unfold Go.Proofs.YtnmkfdndfhefiaaGreat.les
    rw [List.length_map]
    exact h.ln
/-- the document's less. -/
def lsd (x : It) (n : Int) (L : List It) : List It := if x.qt = n then oth x.id L else les x.id n L
theorem lsd_lk {L : List It} (h : Lk L) {x : It} (hx : x ∈ L) {n : Int} (h0 : 0 ≤ n) (hn : n ≤ x.qt) : Lk (lsd x n L) := by
  unfold lsd
  by_cases e : x.qt = n
  · rw [if_pos e]; exact h.oth _
  · rw [if_neg e]; exact h.les hx h0 (by omega)
theorem lsd_same {L : List It} (h : Lk L) {s : Int} {x : It} {xs : List It} (hi : iso s L = x :: xs) (n : Int) : iso s (lsd x n L) = cut x n xs := by
  have hx : x ∈ L ∧ x.sd = s := mem_iso.1 (by rw [hi]; simp)
  have hnd : ((iso s L).map (·.id)).Nodup := ((iso_perm s L).map (·.id)).nodup_iff.2 (h.nd.sublist (List.Sublist.map _ List.filter_sublist))
  rw [hi, List.map_cons, List.nodup_cons] at hnd
  have hne : ∀ y ∈ xs, y.id ≠ x.id := fun y hy e => hnd.1 (List.mem_map.2 ⟨y, hy, e⟩)
  unfold lsd cut
  by_cases e : x.qt = n
  · rw [if_pos e, if_pos e]
    unfold oth
    rw [iso_filter h.ik, hi, List.filter_cons, if_neg (by simp)]
    exact List.filter_eq_self.2 (fun y hy => by simpa using hne y hy)
  · rw [if_neg e, if_neg e]
    unfold les
    rw [iso_map (les_f x.id n), hi, List.map_cons, if_pos rfl]
    congr 1
    refine (List.map_congr_left (fun y hy => ?_)).trans (List.map_id xs)
    rw [if_neg (hne y hy)]
    rfl
theorem lsd_other {L : List It} (h : Lk L) {t : Int} {x : It} (hx : x ∈ L) (ht : x.sd ≠ t) (n : Int) : iso t (lsd x n L) = iso t L := by
  have hne : ∀ y ∈ iso t L, y.id ≠ x.id := fun y hy e => by
    obtain ⟨h1, h2⟩ := mem_iso.1 hy
    have := h.inj h1 hx e
    subst this
    exact ht h2
  unfold lsd
  by_cases e : x.qt = n
  · rw [if_pos e]
    unfold oth
    rw [iso_filter h.ik]
    exact List.filter_eq_self.2 (fun y hy => by simpa using hne y hy)
  · rw [if_neg e]
    unfold les
    rw [iso_map (les_f x.id n)]
    refine (List.map_congr_left (fun y hy => ?_)).trans (List.map_id _)
    rw [if_neg (hne y hy)]
    rfl
/-- where one stands that is there. -/
theorem fni_in {L : List It} (h : Lk L) {x : It} (hx : x ∈ L) : ∃ i, ∃ hi : i < L.length, fni x.id L = i ∧ L[i] = x := by
  obtain ⟨i, hi, rfl⟩ := List.getElem_of_mem hx
  refine ⟨i, hi, fni_at hi (fun j hj hji e => ?_) rfl, rfl⟩
  have := List.pairwise_iff_getElem.1 h.nd j i (by simpa using hj) (by simpa using hi) hji
  simp only [List.getElem_map] at this
  exact this e
end Go.Proofs.YtnmkfdndfhefiaaGreat
