/-
  Whatever the order, plain.
-/
import Derived.Test.YtknikhoobhgidaaDrB
namespace Go.Proofs.Ytknikhoobhgidaa
open Go.RowKit Go.Deep Go.Shelf
set_option linter.unusedVariables false
set_option linter.unusedSimpArgs false
theorem hsi_iff {id : Int} {l : List It} : hsi id l = false ↔ ∀ x ∈ l, x.id ≠ id := by
  unfold hsi
  rw [List.any_eq_false]
  constructor
  · intro h x hx e; exact h x hx (by simpa using e)
  · intro h x hx e; exact h x hx (by simpa using e)
theorem fni_gone {id : Int} {l : List It} (h : hsi id l = false) : fni id l = -1 := by
  have e := fni_hsi id l
  rw [h] at e
  have := fni_ge id l
  have := of_decide_eq_false e
  omega
theorem cut_ent {x : It} {l : List It} : cutAt (bh x l) (ent x l) = l := by
  have hb := bh_le x l
  obtain ⟨k, hk⟩ : ∃ k, bh x l = k := ⟨_, rfl⟩
  unfold cutAt ent ins
  rw [hk] at hb ⊢
  have e1 : (l.take k ++ x :: l.drop k).take k = l.take k := by rw [List.take_append_of_le_length (by simp; omega), List.take_of_length_le (by simp; omega)]
  have e2 : (l.take k ++ x :: l.drop k).drop (k + 1) = l.drop k := by
    rw [List.drop_append, List.drop_of_length_le (by simp; omega), List.nil_append, List.length_take, show k + 1 - min k l.length = 1 by omega]
    rfl
  rw [e1, e2, List.take_append_drop]
theorem fni_ent {x : It} {l : List It} (h : hsi x.id l = false) : fni x.id (ent x l) = bh x l ∧ bh x l < (ent x l).length := by
  have hb := bh_le x l
  have hl : (ent x l).length = l.length + 1 := ins_len hb
  refine ⟨?_, by omega⟩
  obtain ⟨h1, h2⟩ := at_len (D := l.take (bh x l)) (xs := l.drop (bh x l)) (x := x) (i := bh x l) (by simp; omega)
  refine fni_at (l := ent x l) (by omega) (fun j hj hlt => ?_) ?_
  · have hj2 : j < (l.take (bh x l) ++ x :: l.drop (bh x l)).length := hj
    have e : (l.take (bh x l) ++ x :: l.drop (bh x l))[j]'hj2 ∈ l := by
      rw [List.getElem_append_left (by rw [List.length_take]; omega), List.getElem_take]
      exact List.getElem_mem _
    exact hsi_iff.1 h _ e
  · show ((l.take (bh x l) ++ x :: l.drop (bh x l))[bh x l]).id = x.id
    rw [h2]
/-- dropped again, the sides are as they were. -/
theorem drop_more (B : Nat) (r m : Int) (p1 : Option Addr) (c1 : Nat) (b : List It) (p2 : Option Addr) (c2 : Nat) (s : List It) (x : It) (w : World) (hr : rfi m b s x = 0) (h : Cl w B r m p1 c1 (eb m b s x) p2 c2 (es m b s x)) :
    Calls Try.prog 20 #[.pointer (some ⟨B, 0, none⟩), .int .u64 x.id] w fun e w' => (∃ v, e = .returned v) ∧ Cl w' B r m p1 c1 b p2 c2 s ∧ Kp (fun j => j = B ∨ OfP p1 j ∨ OfP p2 j) w w' := by
  obtain ⟨h1, h2, h3, h4, h5⟩ := rfi_ok hr
  rcases (ck_ok h1).2 with hs | hs
  · have e1 : eb m b s x = ent x b := by unfold eb; rw [if_pos ⟨hr, hs⟩]
    have e2 : es m b s x = s := by unfold es; rw [if_neg (by omega)]
    rw [e1, e2] at h
    obtain ⟨f1, f2⟩ := fni_ent h3
    have := drop_buy B r m p1 c1 (ent x b) p2 c2 s x.id (bh x b) w h f1 f2
    rw [cut_ent] at this
    exact this
  · have e1 : eb m b s x = b := by unfold eb; rw [if_neg (by omega)]
    have e2 : es m b s x = ent x s := by unfold es; rw [if_pos ⟨hr, hs⟩]
    rw [e1, e2] at h
    obtain ⟨f1, f2⟩ := fni_ent h4
    have := drop_sell B r m p1 c1 b p2 c2 (ent x s) x.id (bh x s) w h (fni_gone h3) f1 f2
    rw [cut_ent] at this
    exact this
/-- those that were taken: IDs that differ, none refused. -/
structure Tkn (T : List It) : Prop where
  nd : (T.map (·.id)).Nodup
  ok : ∀ x ∈ T, ck x = 0 ∧ x.id ≠ 0
theorem Tkn.perm {T T' : List It} (h : Tkn T) (hp : T'.Perm T) : Tkn T' := ⟨((hp.map (·.id)).nodup_iff).2 h.nd, fun x hx => h.ok x (hp.mem_iff.1 hx)⟩
theorem etd_tkn {m : Int} (l : List It) : ∀ i, i ≤ l.length → Tkn (etd m (l.take i)).2.2 := by
  intro i
  induction i with
  | zero => intro _; exact ⟨by simp [etd], by simp [etd]⟩
  | succ i ih =>
    intro hi
    have ih' := ih (by omega)
    have hp := etd_perm m (l.take i)
    rw [etd_step (by omega)]
    obtain ⟨t, ht⟩ : ∃ t, etd m (l.take i) = t := ⟨_, rfl⟩
    rw [ht] at ih' hp ⊢
    unfold stp
    by_cases h0 : rfi m t.1 t.2.1 l[i] = 0
    · obtain ⟨h1, h2, h3, h4, h5⟩ := rfi_ok h0
      simp only [h0, if_true]
      refine ⟨?_, fun x hx => ?_⟩
      · rw [List.map_append, List.nodup_append]
        refine ⟨ih'.nd, by simp, fun a ha c hc => ?_⟩
        simp only [List.map_cons, List.map_nil, List.mem_singleton] at hc
        subst hc
        obtain ⟨y, hy, rfl⟩ := List.mem_map.1 ha
        rcases List.mem_append.1 (hp.mem_iff.1 hy) with hy | hy
        · exact hsi_iff.1 h3 y hy
        · exact hsi_iff.1 h4 y hy
      · rcases List.mem_append.1 hx with hx | hx
        · exact ih'.ok x hx
        · obtain rfl := List.mem_singleton.1 hx
          exact ⟨h1, h2⟩
    · simp only [h0, if_false]
      exact ih'
/-- one that is still to be entered is not refused. -/
theorem rfi_rest {b s R T : List It} {x : It} (ht : Tkn T) (hp : ((b ++ s) ++ R).Perm T) (hx : x ∈ R) (hl : T.length ≤ 4096) : rfi 4096 b s x = 0 := by
  have h2 := ht.perm hp
  obtain ⟨h3, h4⟩ := h2.ok x (by simp [hx])
  have hn := h2.nd
  rw [List.map_append, List.nodup_append] at hn
  obtain ⟨_, _, hd⟩ := hn
  have e1 : hsi x.id b = false := hsi_iff.2 (fun y hy => hd y.id (List.mem_map.2 ⟨y, by simp [hy], rfl⟩) x.id (List.mem_map.2 ⟨x, hx, rfl⟩))
  have e2 : hsi x.id s = false := hsi_iff.2 (fun y hy => hd y.id (List.mem_map.2 ⟨y, by simp [hy], rfl⟩) x.id (List.mem_map.2 ⟨x, hx, rfl⟩))
  have hlen := hp.length_eq
  rw [List.length_append, List.length_append] at hlen
  have := List.length_pos_of_mem hx
  unfold rfi
  rw [h3, e1, e2, if_neg (by simp), if_neg (by simp [h4]), if_neg (by omega)]
theorem cut_perm {R : List It} {k : Nat} (hk : k < R.length) : R.Perm (R[k] :: cutAt k R) := by
  have e : R = R.take k ++ R[k] :: R.drop (k + 1) := by rw [← List.drop_eq_getElem_cons hk, List.take_append_drop]
  have := List.perm_middle (a := R[k]) (l₁ := R.take k) (l₂ := R.drop (k + 1))
  unfold cutAt
  rw [← e] at this
  exact this
/-- the next one is entered. -/
theorem next_perm {b s R T : List It} {k : Nat} (hp : ((b ++ s) ++ R).Perm T) (hk : k < R.length) (hr : rfi 4096 b s R[k] = 0) : ((eb 4096 b s R[k] ++ es 4096 b s R[k]) ++ cutAt k R).Perm T := by
  have h1 := stp_perm (m := 4096) (t := (b, s, b ++ s)) (x := R[k]) (List.Perm.refl _)
  unfold stp at h1
  simp only [hr, if_true] at h1
  have h2 : ((eb 4096 b s R[k] ++ es 4096 b s R[k]) ++ cutAt k R).Perm (((b ++ s) ++ [R[k]]) ++ cutAt k R) := List.Perm.append_right _ h1.symm
  have h3 : (((b ++ s) ++ [R[k]]) ++ cutAt k R) = (b ++ s) ++ (R[k] :: cutAt k R) := by simp
  rw [h3] at h2
  exact (h2.trans (List.Perm.append_left _ (cut_perm hk).symm)).trans hp
theorem side_perm {b s b' s' : List It} (hb : Sd 1 b) (hs : Sd 2 s) (hb' : Sd 1 b') (hs' : Sd 2 s') (h : (b ++ s).Perm (b' ++ s')) : b.Perm b' ∧ s.Perm s' := by
  have f1 : ∀ {b s : List It}, Sd 1 b → Sd 2 s → (b ++ s).filter (fun x => x.sd == 1) = b := fun {b s} hb hs => by
    rw [List.filter_append, List.filter_eq_self.2 (fun x hx => by rw [(hb.ok x hx).sd]; rfl), List.filter_eq_nil_iff.2 (fun x hx => by rw [(hs.ok x hx).sd]; decide), List.append_nil]
  have f2 : ∀ {b s : List It}, Sd 1 b → Sd 2 s → (b ++ s).filter (fun x => x.sd == 2) = s := fun {b s} hb hs => by
    have e1 : s.filter (fun x => x.sd == 2) = s := List.filter_eq_self.2 (fun x hx => by rw [(hs.ok x hx).sd]; rfl)
    have e2 : b.filter (fun x => x.sd == 2) = [] := List.filter_eq_nil_iff.2 (fun x hx => by rw [(hb.ok x hx).sd]; decide)
    rw [List.filter_append, e1, e2, List.nil_append]
  have h1 := h.filter (fun x => x.sd == 1)
  have h2 := h.filter (fun x => x.sd == 2)
  rw [f1 hb hs, f1 hb' hs'] at h1
  rw [f2 hb hs, f2 hb' hs'] at h2
  exact ⟨h1, h2⟩
theorem wd_perm {s p : Int} {l l' : List It} (h : Sd s l) (h' : Sd s l') (hp : l.Perm l') : wd p l = wd p l' := by
  rw [wd_filter h, wd_filter h']
  exact tot_perm (hp.filter _)
/-- the quote is one. -/
theorem quo_perm {r : Int} {b s b' s' : List It} (hb : Sd 1 b) (hs : Sd 2 s) (hb' : Sd 1 b') (hs' : Sd 2 s') (h : (b ++ s).Perm (b' ++ s')) : quo r b s = quo r b' s' := by
  obtain ⟨h1, h2⟩ := side_perm hb hs hb' hs' h
  have lpp : ∀ {a c : List It}, a.Perm c → (lp a).Perm (lp c) := fun h => (h.filter _).map _
  have e1 : pcs r b s = pcs r b' s' := by
    unfold pcs
    rw [srt_eq (a := r :: lp b ++ lp s) (b := r :: lp b' ++ lp s') (List.Perm.append ((lpp h1).cons r) (lpp h2))]
  have e2 : cds r b s = cds r b' s' := by
    unfold cds
    rw [e1]
    congr 1
    funext p
    rw [wd_perm hb hb' h1, wd_perm hs hs' h2]
  unfold quo mst
  rw [e2]
end Go.Proofs.Ytknikhoobhgidaa
