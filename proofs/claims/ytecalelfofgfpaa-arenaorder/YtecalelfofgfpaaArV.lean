/-
  ArenaOrder: what stands between two steps, and what each call makes of it.
-/
import Derived.Test.YtecalelfofgfpaaArU
namespace Go.Proofs.Ytecalelfofgfpaa
open Go.RowKit Go.Deep
set_option linter.unusedVariables false
set_option linter.unusedSimpArgs false

theorem Wf.at {s : ArS} (h : Wf s) {b : Nat} (hb : b ∈ s.bs) (ht : (s.nd b).tk = true) : s.at (s.nd b).idx (s.nd b).life = some b := by
  unfold ArS.at
  rw [h.idx hb]
  simp [ht]
theorem Wf.inj {s : ArS} (h : Wf s) {a b : Nat} (ha : a ∈ s.bs) (hb : b ∈ s.bs) (e : (s.nd a).idx = (s.nd b).idx) : a = b := by
  have h1 := h.idx ha
  rw [e, h.idx hb] at h1
  exact (Option.some.inj h1).symm
theorem mem_liv {nd : Nat → Nd} {L : List Nat} {x : Nat} : x ∈ liv nd L ↔ x ∈ L ∧ (nd x).dd = false := by
  unfold liv
  rw [List.mem_filter]
  simp
theorem hds_len (nd : Nat → Nd) (L : List Nat) : (hds nd L).length = lvs nd L := by simp [hds, liv, lvs]
/-- one handle less is one node less. -/
theorem wout_hds {nd nd' : Nat → Nd} {M M' : List Nat} {b : Nat} (hM : M' = M.filter fun x => !(x == b)) (hs : ∀ x ∈ M', hd nd' x = hd nd x) (hi : ∀ x ∈ M, (nd x).idx = (nd b).idx → x = b) : wout (M.map (hd nd)) (nd b).idx (nd b).life = M'.map (hd nd') := by
  subst hM
  have h1 : (M.filter fun x => !(x == b)).map (hd nd') = (M.filter fun x => !(x == b)).map (hd nd) := List.map_congr_left hs
  rw [h1]
  unfold wout
  rw [List.filter_map]
  congr 1
  apply List.filter_congr
  intro x hx
  simp only [Function.comp, hd]
  by_cases e : x = b
  · subst e; simp
  · have h2 : ((nd x).idx == (nd b).idx) = false := beq_eq_false_iff_ne.2 (fun h => e (hi x hx h))
    have h3 : (x == b) = false := beq_eq_false_iff_ne.2 e
    simp only [h2, h3, Bool.false_and]
structure Lw (W : World) (A Q : Nat) (H : List (Nat × Nat)) (dead loose : Nat) (w : World) : Prop where
  st : ∃ s L F, Mq W.heap.size w A Q 12 s L F ∧ hds s.nd L = H ∧ dds s.nd L = dead ∧ s.tk = L.length + loose
  bel : Below W.heap.size W w
theorem Lw.on {W : World} {A Q : Nat} {H : List (Nat × Nat)} {dead loose : Nat} {w w' : World} (h : Lw W A Q H dead loose w) (hb : Below w.heap.size w w') : Lw W A Q H dead loose w' := by
  obtain ⟨⟨s, L, F, h1, h2⟩, h3⟩ := h
  exact ⟨⟨s, L, F, h1.on hb, h2⟩, btrB h3 h3.size hb⟩
theorem Lw.sum {W : World} {A Q : Nat} {H : List (Nat × Nat)} {dead loose : Nat} {w : World} (h : Lw W A Q H dead loose w) : H.length + dead + loose ≤ 12 := by
  obtain ⟨⟨s, L, F, h1, h2, h3, h4⟩, h5⟩ := h
  have := lvs_dds s.nd L
  have := h1.pq.room_le
  rw [← h2, hds_len]
  omega
/-- behind a take. -/
structure LwT (W : World) (A Q : Nat) (H : List (Nat × Nat)) (dead loose i l : Nat) (w : World) : Prop where
  st : ∃ s L F b, Mq W.heap.size w A Q 12 s L F ∧ hds s.nd L = H ∧ dds s.nd L = dead ∧ s.tk = L.length + loose + 1 ∧ b ∉ L ∧ b ∉ F ∧ s.at i l = some b
  bel : Below W.heap.size W w
theorem LwT.on {W : World} {A Q : Nat} {H : List (Nat × Nat)} {dead loose i l : Nat} {w w' : World} (h : LwT W A Q H dead loose i l w) (hb : Below w.heap.size w w') : LwT W A Q H dead loose i l w' := by
  obtain ⟨⟨s, L, F, b, h1, h2⟩, h3⟩ := h
  exact ⟨⟨s, L, F, b, h1.on hb, h2⟩, btrB h3 h3.size hb⟩
theorem hds_same {nd nd' : Nat → Nd} {L : List Nat} (h : Sm nd nd' L) : hds nd' L = hds nd L := by
  unfold hds liv
  have h1 : L.filter (fun b => !(nd' b).dd) = L.filter (fun b => !(nd b).dd) := by
    apply List.filter_congr
    intro x hx
    rw [(h x hx).1]
  rw [h1]
  apply List.map_congr_left
  intro x hx
  have hxL := (List.mem_filter.1 hx).1
  unfold hd
  rw [(h x hxL).2.1, (h x hxL).2.2]
theorem Lw.take {W : World} {A Q : Nat} {H : List (Nat × Nat)} {dead loose : Nat} {w : World} (h : Lw W A Q H dead loose w) (hs : H.length + dead + loose < 12) (v : Int) :
    Calls Try.prog 15 #[.pointer (some ⟨A, 0, none⟩), .int .i64 v] w fun e w' => ∃ i l, e = .returned (.tuple #[.agg #[.int .u32 (i : Nat), .int .u32 (l : Nat)], .int .i64 0]) ∧ LwT W A Q H dead loose i l w' ∧ Kp W.heap.size w w' := by
  obtain ⟨⟨s, L, F, h1, h2, h3, h4⟩, h5⟩ := h
  have hl := lvs_dds s.nd L
  rw [← h2, hds_len] at hs
  refine (h1.take (by decide) (by omega) v).mono ?_
  rintro e w' ⟨b, s', F', i, l, rfl, k1, k2, k3, k4, k5, k6, k7⟩
  refine ⟨i, l, rfl, ⟨⟨s', L, F', b, k1, ?_, ?_, by omega, k3, k4, k6⟩, h5.trans k2.bel⟩, k2⟩
  · rw [← h2]; exact hds_same (fun x hx => by rw [k5 x hx]; exact ⟨rfl, rfl, rfl⟩)
  · rw [← h3]; exact (cnt_congr (fun x hx => by rw [k5 x hx])).2
theorem Lw.full {W : World} {A Q : Nat} {H : List (Nat × Nat)} {dead loose : Nat} {w : World} (h : Lw W A Q H dead loose w) (hs : H.length + dead + loose = 12) (v : Int) :
    Calls Try.prog 15 #[.pointer (some ⟨A, 0, none⟩), .int .i64 v] w fun e w' => e = .returned (.tuple #[.agg #[.int .u32 0, .int .u32 0], .int .i64 51]) ∧ Below w.heap.size w w' := by
  obtain ⟨⟨s, L, F, h1, h2, h3, h4⟩, h5⟩ := h
  have hl := lvs_dds s.nd L
  rw [← h2, hds_len] at hs
  exact h1.full (by decide) (by omega) v
theorem LwT.push {W : World} {A Q : Nat} {H : List (Nat × Nat)} {dead loose i l : Nat} {w : World} (h : LwT W A Q H dead loose i l w) :
    Calls Try.prog 25 #[.pointer (some ⟨Q, 0, none⟩), .agg #[.int .u32 i, .int .u32 l]] w fun e w' => e = .returned (.int .i64 0) ∧ Lw W A Q (H ++ [(i, l)]) dead loose w' ∧ Kq W.heap.size w w' := by
  obtain ⟨⟨s, L, F, b, h1, h2, h3, h4, h5, h6, h7⟩, h8⟩ := h
  obtain ⟨m1, m2, m3, m4⟩ := ArS.at_mem h7
  have hix : (s.nd b).idx = i := nodup_get h1.aq.ar.nod (h1.aq.ar.wf.idx m1) m4
  have hdb := (h1.pq.oth b m1 h5).2.1
  refine (push_any h1 (by decide) i l b h7 h5 h6 (by omega)).mono ?_
  rintro e w' ⟨rfl, k1, k2⟩
  have hc : ∀ x ∈ L, ¬ x = b := fun x hx e => h5 (e ▸ hx)
  have hSm : Sm s.nd (s.push Q L b).nd L := fun x hx => by rw [push_other h5 (hc x hx)]; exact ⟨rfl, rfl, rfl⟩
  have hpb : (s.push Q L b).nd b = { s.nd b with q := some Q, ah := L.getLast? } := push_self h5
  refine ⟨rfl, ⟨⟨s.push Q L b, L ++ [b], F, k1, ?_, ?_, ?_⟩, h8.trans k2.bel⟩, k2⟩
  · have h9 := hds_same hSm
    unfold hds liv at h9 h2 ⊢
    rw [List.filter_append, List.map_append, h9, h2]
    congr 1
    simp [List.filter_cons, hpb, hdb, hd, hix, m3]
  · rw [dds_app, dds_cons, hSm.dds, hpb, h3]
    simp [hdb, dds]
  · show s.tk = _
    simp
    omega
/-- the node of a handle that stands in the list. -/
theorem hds_at {nd : Nat → Nd} {L : List Nat} {k : Nat} (hk : k < (hds nd L).length) : ∃ j, ∃ hj : j < L.length, (nd L[j]).dd = false ∧ (hds nd L)[k] = ((nd L[j]).idx, (nd L[j]).life) := by
  have hk2 : k < (liv nd L).length := by simpa [hds] using hk
  have hm : (liv nd L)[k] ∈ liv nd L := List.getElem_mem _
  obtain ⟨h1, h2⟩ := mem_liv.1 hm
  obtain ⟨j, hj, e⟩ := List.getElem_of_mem h1
  refine ⟨j, hj, by rw [e]; exact h2, ?_⟩
  rw [e]
  simp [hds, hd]
theorem Lw.mark {W : World} {A Q : Nat} {H : List (Nat × Nat)} {dead loose : Nat} {w : World} (h : Lw W A Q H dead loose w) {k : Nat} (hk : k < H.length) :
    Calls Try.prog 26 #[.pointer (some ⟨Q, 0, none⟩), .agg #[.int .u32 H[k].1, .int .u32 H[k].2]] w fun e w' => e = .returned (.int .i64 0) ∧ Lw W A Q (wout H H[k].1 H[k].2) (dead + 1) loose w' ∧ Kq W.heap.size w w' := by
  obtain ⟨⟨s, L, F, h1, rfl, h3, h4⟩, h5⟩ := h
  obtain ⟨j, hj, hdd, he⟩ := hds_at hk
  have hbL := List.getElem_mem hj
  have hm := h1.pq.mem _ hbL
  have hat := h1.aq.ar.wf.at hm.1 hm.2.2
  rw [he]
  refine (mark_any h1 (by decide) hj hdd _ _ hat).mono ?_
  rintro e w' ⟨rfl, k1, k2⟩
  have hq := (qs_mark h1.pq.nod hj hdd (s.mark L[j]).nd rfl).1
  refine ⟨rfl, ⟨⟨s.mark L[j], L, F, k1, ?_, ?_, h4⟩, h5.trans k2.bel⟩, k2⟩
  · symm
    unfold hds
    refine wout_hds ?_ ?_ ?_
    · unfold liv
      rw [List.filter_filter]
      apply List.filter_congr
      intro x hx
      by_cases e : x = L[j]
      · subst e; simp [ArS.mark, upd_same]
      · simp [ArS.mark, upd_other _ _ _ _ e, e]
    · intro x hx
      by_cases e : x = L[j]
      · subst e
        have := (mem_liv.1 hx).2
        simp [ArS.mark, upd_same] at this
      · simp [hd, ArS.mark, upd_other _ _ _ _ e]
    · intro x hx e
      exact h1.aq.ar.wf.inj (h1.pq.mem x (mem_liv.1 hx).1).1 hm.1 e
  · have := congrArg QuS.dd hq
    show dds _ L = _
    rw [← h3]
    exact this
theorem Lw.remove {W : World} {A Q : Nat} {H : List (Nat × Nat)} {dead loose : Nat} {w : World} (h : Lw W A Q H dead loose w) {k : Nat} (hk : k < H.length) :
    Calls Try.prog 28 #[.pointer (some ⟨Q, 0, none⟩), .agg #[.int .u32 H[k].1, .int .u32 H[k].2]] w fun e w' => e = .returned (.int .i64 0) ∧ Lw W A Q (wout H H[k].1 H[k].2) dead (loose + 1) w' ∧ Kq W.heap.size w w' := by
  obtain ⟨⟨s, L, F, h1, rfl, h3, h4⟩, h5⟩ := h
  obtain ⟨j, hj, hdd, he⟩ := hds_at hk
  have hbL := List.getElem_mem hj
  have hm := h1.pq.mem _ hbL
  have hat := h1.aq.ar.wf.at hm.1 hm.2.2
  have hap := h1.pq.lk.apart h1.pq.nod hj
  rw [he]
  refine (remove_any h1 (by decide) hj _ _ hat).mono ?_
  rintro e w' ⟨rfl, k1, k2⟩
  have hx : ∀ x ∈ L.eraseIdx j, ¬ x = L[j] := fun x hx => ((mem_erase hj h1.pq.nod).1 hx).2
  have hSm : Sm s.nd (s.unl L[j]).nd (L.eraseIdx j) := fun x hxe => by
    obtain ⟨u1, u2, u3, u4, u5, u6⟩ := unl_same s.nd L[j] x (hx x hxe) hap
    exact ⟨u1, u4, u5⟩
  obtain ⟨hp1, hp2⟩ := erase_parts hj
  refine ⟨rfl, ⟨⟨s.unl L[j], L.eraseIdx j, F, k1, ?_, ?_, ?_⟩, h5.trans k2.bel⟩, k2⟩
  · rw [hds_same hSm]
    symm
    unfold hds
    refine wout_hds (nd' := s.nd) ?_ (fun _ _ => rfl) ?_
    · have h7 : L.eraseIdx j = L.filter fun x => !(x == L[j]) := by
        have hn2 := h1.pq.nod
        obtain ⟨b, hb⟩ : ∃ b, L[j] = b := ⟨_, rfl⟩
        rw [hb] at hp1 ⊢
        rw [hp1, List.nodup_append, List.nodup_cons] at hn2
        rw [hp2]
        conv => rhs; rw [hp1]
        rw [List.filter_append, List.filter_cons]
        have f1 : (L.take j).filter (fun x => !(x == b)) = L.take j := by
          rw [List.filter_eq_self]
          intro x hx
          have : ¬ x = b := fun e => hn2.2.2 x hx b List.mem_cons_self e
          simp [this]
        have f2 : (L.drop (j + 1)).filter (fun x => !(x == b)) = L.drop (j + 1) := by
          rw [List.filter_eq_self]
          intro x hx
          have : ¬ x = b := fun e => hn2.2.1.1 (e ▸ hx)
          simp [this]
        rw [f1, f2]
        simp
      rw [h7]
      unfold liv
      rw [List.filter_filter, List.filter_filter]
      apply List.filter_congr
      intro x _
      exact Bool.and_comm _ _
    · intro x hx e
      exact h1.aq.ar.wf.inj (h1.pq.mem x (mem_liv.1 hx).1).1 hm.1 e
  · have := congrArg QuS.dd (qs_out h1.pq.lk h1.pq.nod hj)
    show dds (unl s.nd L[j]) _ = _
    rw [← h3]
    rw [show dds (unl s.nd L[j]) (L.eraseIdx j) = _ from this]
    show (if (s.nd L[j]).dd = true then _ else _) = _
    rw [hdd]
    rfl
  · show s.tk = _
    rw [List.length_eraseIdx_of_lt hj]
    omega
theorem hds_nil {nd : Nat → Nd} {L : List Nat} (h : hds nd L = []) : fst nd L = none := by
  cases hf : fst nd L with
  | none => rfl
  | some b =>
    obtain ⟨h1, h2⟩ := fst_mem hf
    have : b ∈ liv nd L := mem_liv.2 ⟨h1, h2⟩
    unfold hds at h
    rw [List.map_eq_nil_iff] at h
    rw [h] at this
    simp at this
theorem Lw.popNone {W : World} {A Q : Nat} {dead loose : Nat} {w : World} (h : Lw W A Q [] dead loose w) :
    Calls Try.prog 29 #[.pointer (some ⟨Q, 0, none⟩)] w fun e w' => e = .returned (.tuple #[.agg #[.int .u32 0, .int .u32 0], .bool false]) ∧ Below w.heap.size w w' := by
  obtain ⟨⟨s, L, F, h1, h2, h3, h4⟩, h5⟩ := h
  exact pop_none h1 (hds_nil h2)
theorem Lw.pop {W : World} {A Q : Nat} {x : Nat × Nat} {H : List (Nat × Nat)} {dead loose : Nat} {w : World} (h : Lw W A Q (x :: H) dead loose w) :
    Calls Try.prog 29 #[.pointer (some ⟨Q, 0, none⟩)] w fun e w' => e = .returned (.tuple #[.agg #[.int .u32 x.1, .int .u32 x.2], .bool true]) ∧ (∃ dead', Lw W A Q H dead' (loose + 1) w') ∧ Kq W.heap.size w w' := by
  obtain ⟨⟨s, L, F, h1, h2, h3, h4⟩, h5⟩ := h
  cases hf : fst s.nd L with
  | none =>
    have := fst_none_liv hf
    unfold hds at h2
    rw [this] at h2
    simp at h2
  | some b =>
    obtain ⟨m, hm, e1, e2, e3, hc⟩ := pop_some h1 (by decide) hf
    refine hc.mono ?_
    rintro e w' ⟨rfl, hp⟩
    have hl : hds s.nd L = hd s.nd b :: hds s.nd (L.drop (m + 1)) := by
      have h6 : L = L.take m ++ b :: L.drop (m + 1) := by rw [← e1]; exact (erase_parts hm).1
      unfold hds at *
      conv => lhs; rw [h6]
      unfold liv at e2 ⊢
      rw [List.filter_append, e2, List.filter_cons]
      simp [(fst_mem hf).2]
    rw [hl] at h2
    obtain ⟨rfl, rfl⟩ : hd s.nd b = x ∧ hds s.nd (L.drop (m + 1)) = H := by simpa using h2
    obtain ⟨⟨s', F', p1, p2, p3⟩, p4⟩ := hp
    refine ⟨rfl, ⟨dds s'.nd (L.drop (m + 1)), ⟨s', L.drop (m + 1), F', p1, hds_same p2, rfl, ?_⟩, h5.trans p4.bel⟩, p4⟩
    rw [List.length_drop]
    omega
theorem Lw.sweep {W : World} {A Q : Nat} {H : List (Nat × Nat)} {dead loose : Nat} {w : World} (h : Lw W A Q H dead loose w) :
    Calls Try.prog 31 #[.pointer (some ⟨Q, 0, none⟩)] w fun e w' => e = .returned (.int .i64 dead) ∧ Lw W A Q H 0 loose w' ∧ Kq W.heap.size w w' := by
  obtain ⟨⟨s, L, F, h1, h2, h3, h4⟩, h5⟩ := h
  refine (sweep_any h1 (by decide)).mono ?_
  rintro e w' ⟨rfl, hb⟩
  obtain ⟨⟨s', F', p1, p2, p3, p4⟩, p5⟩ := hb
  have hlf : lft s.nd L L.length = liv s.nd L := by unfold lft; simp
  rw [hlf] at p1 p2
  rw [List.take_length] at p3
  have hl := lvs_dds s.nd L
  have hll : (liv s.nd L).length = lvs s.nd L := rfl
  refine ⟨by rw [h3], ⟨⟨s', liv s.nd L, F', p1, ?_, ?_, ?_⟩, h5.trans p5.bel⟩, p5⟩
  · rw [hds_same p2, ← h2]
    unfold hds liv
    rw [List.filter_filter]
    congr 1
    apply List.filter_congr
    intro x _
    simp
  · rw [p2.dds]
    unfold dds liv
    rw [List.filter_filter, List.length_eq_zero_iff, List.filter_eq_nil_iff]
    intro x _
    simp
  · rw [hll]
    omega
theorem Lw.all {W : World} {A Q : Nat} {H : List (Nat × Nat)} {dead loose : Nat} {w : World} (h : Lw W A Q H dead loose w) :
    Calls Try.prog 33 #[.pointer (some ⟨Q, 0, none⟩)] w fun e w' => ∃ p c, e = .returned (.slice p H.length c) ∧ Hr w' p H ∧ Below w.heap.size w w' := by
  obtain ⟨⟨s, L, F, h1, h2, h3, h4⟩, h5⟩ := h
  refine (all_any h1 (by decide)).mono ?_
  rintro e w' ⟨v, rfl, ho, hb⟩
  rw [h2] at ho
  obtain ⟨p, c, rfl⟩ := ho.form
  exact ⟨p, c, rfl, ho.hr, hb⟩
theorem Lw.live {W : World} {A Q : Nat} {H : List (Nat × Nat)} {dead loose : Nat} {w : World} (h : Lw W A Q H dead loose w) :
    Calls Try.prog 34 #[.pointer (some ⟨Q, 0, none⟩)] w fun e w' => e = .returned (.int .i64 (H.length : Nat)) ∧ w' = w := by
  obtain ⟨⟨s, L, F, h1, h2, h3, h4⟩, h5⟩ := h
  refine (live_any h1.aq).mono ?_
  rintro e w' ⟨rfl, rfl⟩
  refine ⟨?_, rfl⟩
  rw [← h2, hds_len]
  rfl
theorem Lw.dead {W : World} {A Q : Nat} {H : List (Nat × Nat)} {dead loose : Nat} {w : World} (h : Lw W A Q H dead loose w) :
    Calls Try.prog 30 #[.pointer (some ⟨Q, 0, none⟩)] w fun e w' => e = .returned (.int .i64 dead) ∧ w' = w := by
  obtain ⟨⟨s, L, F, h1, h2, h3, h4⟩, h5⟩ := h
  refine (dead_any h1.aq).mono ?_
  rintro e w' ⟨rfl, rfl⟩
  refine ⟨?_, rfl⟩
  rw [← h3]
  rfl
theorem Lw.len {W : World} {A Q : Nat} {H : List (Nat × Nat)} {dead loose : Nat} {w : World} (h : Lw W A Q H dead loose w) :
    Calls Try.prog 19 #[.pointer (some ⟨A, 0, none⟩)] w fun e w' => e = .returned (.int .i64 ((H.length + dead + loose : Nat) : Int)) ∧ w' = w := by
  obtain ⟨⟨s, L, F, h1, h2, h3, h4⟩, h5⟩ := h
  refine (len_any h1.aq.ar).mono ?_
  rintro e w' ⟨rfl, rfl⟩
  refine ⟨?_, rfl⟩
  have := lvs_dds s.nd L
  have e1 : s.tk = H.length + dead + loose := by rw [← h2, hds_len]; omega
  rw [e1]
theorem Lw.free {W : World} {A Q : Nat} {H : List (Nat × Nat)} {dead loose : Nat} {w : World} (h : Lw W A Q H dead loose w) :
    Calls Try.prog 23 #[.pointer (some ⟨A, 0, none⟩)] w fun e w' => e = .returned (.int .i64 (12 - ((H.length + dead + loose : Nat) : Int))) ∧ Below w.heap.size w w' := by
  obtain ⟨⟨s, L, F, h1, h2, h3, h4⟩, h5⟩ := h
  have hrm := h1.pq.rm
  have hrl := h1.pq.room_le
  refine (free_any h1.aq.ar (by omega) (by omega)).mono ?_
  rintro e w' ⟨rfl, hb⟩
  refine ⟨?_, hb⟩
  have := lvs_dds s.nd L
  have e1 : s.tk = H.length + dead + loose := by rw [← h2, hds_len]; omega
  rw [e1, hrm]
  rfl
end Go.Proofs.Ytecalelfofgfpaa
