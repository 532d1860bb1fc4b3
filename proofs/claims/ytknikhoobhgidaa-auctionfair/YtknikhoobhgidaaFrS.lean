/-
  Each one's part of a side, plain.
-/
import Derived.Test.YtknikhoobhgidaaFrR
namespace Go.Proofs.Ytknikhoobhgidaa
open Go.RowKit Go.Deep Go.Shelf
set_option linter.unusedVariables false
set_option linter.unusedSimpArgs false
/-- each one's part: what it traded, what is left of it, and that its price allows it. -/
structure Prt (V sd p : Int) (b now : List It) (F : List Fi) : Prop where
  sk : Sd sd b
  v0 : 0 ≤ V
  v1 : V ≤ tot b
  tq : ∀ i (hi : i < b.length), tqt b[i].id sd F = min b[i].qt (max 0 (V - tot (b.take i)))
  lf : ∀ i (hi : i < b.length), lfo b[i].id now = b[i].qt - min b[i].qt (max 0 (V - tot (b.take i)))
  ac : ∀ i (hi : i < b.length), tot (b.take i) < V → acc p b[i] = true
theorem tot_take_mono {s : Int} {l : List It} (h : ∀ x ∈ l, Ik s x) {i j : Nat} (hij : i ≤ j) : tot (l.take i) ≤ tot (l.take j) := by
  have e : l.take i = (l.take j).take i := by rw [List.take_take, Nat.min_eq_left hij]
  rw [e]
  exact tot_take_le (s := s) (fun x hx => h x (List.mem_of_mem_take hx)) i
theorem tot_take_succ {l : List It} {i : Nat} (hi : i < l.length) : tot (l.take (i + 1)) = tot (l.take i) + l[i].qt := by
  rw [List.take_succ_eq_append_getElem hi, tot_app, tot_cons, tot_nil]
  omega
theorem wd_acc {s p V : Int} {b : List It} (h : Sd s b) (hv : V ≤ wd p b) {i : Nat} (hi : i < b.length) (ht : tot (b.take i) < V) : acc p b[i] = true := by
  have hlt : i < wl p b := by
    rcases Nat.lt_or_ge i (wl p b) with h1 | h1
    · exact h1
    · have := tot_take_mono (s := s) h.ok h1
      unfold wd at hv
      omega
  exact tw_lt hi hlt
theorem trd_fills {P : Int} : ∀ (f : Nat) (V : Int) (b s : List It), Sd 1 b → Sd 2 s → ∀ x ∈ (trd P f V b s).1, x.pr = P ∧ 1 ≤ x.qt ∧ x.qt ≤ 4294967295 := by
  intro f
  induction f with
  | zero => intro V b s _ _ x hx; simp [trd] at hx
  | succ f ih =>
    intro V b s hb hs x hx
    cases b with
    | nil => simp [trd] at hx
    | cons u b =>
      cases s with
      | nil => simp [trd] at hx
      | cons y s =>
        have q1 := hb.ok u (by simp)
        have q2 := hs.ok y (by simp)
        have a1 := q1.q0
        have a2 := q2.q0
        have a3 := q1.q1
        unfold trd at hx
        split at hx
        · simp at hx
        · rcases List.mem_cons.1 hx with rfl | hx
          · exact ⟨rfl, by show 1 ≤ min u.qt y.qt; omega, by show min u.qt y.qt ≤ _; omega⟩
          · exact ih _ _ _ (hb.cut (n := min u.qt y.qt) (by omega) (by omega)) (hs.cut (n := min u.qt y.qt) (by omega) (by omega)) x hx
theorem trd_flen {P : Int} : ∀ (f : Nat) (V : Int) (b s : List It), (trd P f V b s).1.length ≤ f := by
  intro f
  induction f with
  | zero => intro V b s; simp [trd]
  | succ f ih =>
    intro V b s
    cases b with
    | nil => simp [trd]
    | cons u b =>
      cases s with
      | nil => simp [trd]
      | cons y s =>
        unfold trd
        split
        · simp
        · have := ih (V - min u.qt y.qt) (cut u (min u.qt y.qt) b) (cut y (min u.qt y.qt) s)
          simp only [List.length_cons]
          omega
theorem rml_len : ∀ {l : List It} {V : Int}, (rml V l).length ≤ l.length
  | [], _ => by simp [rml]
  | x :: l, V => by
    unfold rml
    have := rml_len (l := l) (V := V - x.qt)
    split
    · simp only [List.length_cons]; omega
    split <;> simp
theorem prt_of {r : Int} {b s : List It} {z : Qt} (hb : Sd 1 b) (hs : Sd 2 s) (hn1 : (b.map (·.id)).Nodup) (hn2 : (s.map (·.id)).Nodup) (hq : quo r b s = some z) :
    Prt z.vo 1 z.pr b (rml z.vo b) (trd z.pr (b.length + s.length) z.vo b s).1 ∧ Prt z.vo 2 z.pr s (rml z.vo s) (trd z.pr (b.length + s.length) z.vo b s).1 := by
  have hv := quo_vg hb hs hq
  obtain ⟨p, _, k, hz, _, hne⟩ := quo_at hq
  have e1 : z.pr = p := by rw [hz]; exact qAt_pr _ _ _
  have e2 : z.vo = min (wd p b) (wd p s) := by rw [hz]; exact qAt_vo
  have g := fun id => trd_gtq (P := z.pr) id (b.length + s.length) z.vo b s hb hs hv (Nat.le_refl _)
  refine ⟨⟨hb, hv.ge, hv.a, fun i hi => ?_, fun i hi => lfo_rml hi hv.ge hb.ok hn1, fun i hi ht => ?_⟩, ⟨hs, hv.ge, hv.b, fun i hi => ?_, fun i hi => lfo_rml hi hv.ge hs.ok hn2, fun i hi ht => ?_⟩⟩
  · rw [(g _).1]; exact gtq_at hi hv.ge hb.ok hn1
  · rw [e1]; exact wd_acc hb (by omega) hi ht
  · rw [(g _).2]; exact gtq_at hi hv.ge hs.ok hn2
  · rw [e1]; exact wd_acc hs (by omega) hi ht
theorem hsi_no {id : Int} {l : List It} (h : hsi id l = false) : ∀ y ∈ l, y.id ≠ id := by
  intro y hy e
  have : hsi id l = true := by unfold hsi; rw [List.any_eq_true]; exact ⟨y, hy, by simpa using e⟩
  rw [h] at this
  cases this
/-- those that were taken have IDs that differ. -/
theorem etd_nodup {m : Int} (l : List It) : ∀ i, i ≤ l.length → ((etd m (l.take i)).2.2.map (·.id)).Nodup := by
  intro i
  induction i with
  | zero => intro _; simp [etd]
  | succ i ih =>
    intro hi
    have ih' := ih (by omega)
    have hp := etd_perm m (l.take i)
    rw [etd_step (by omega)]
    obtain ⟨t, ht⟩ : ∃ t, etd m (l.take i) = t := ⟨_, rfl⟩
    rw [ht] at ih' hp ⊢
    unfold stp
    by_cases h0 : rfi m t.1 t.2.1 l[i] = 0
    · obtain ⟨h1, h2, h3, h4, h5⟩ := rfi_ok h0
      simp only [h0, if_true]
      rw [List.map_append, List.nodup_append]
      refine ⟨ih', by simp, fun a ha c hc => ?_⟩
      simp only [List.map_cons, List.map_nil, List.mem_singleton] at hc
      subst hc
      obtain ⟨y, hy, rfl⟩ := List.mem_map.1 ha
      rcases List.mem_append.1 (hp.mem_iff.1 hy) with hy | hy
      · exact hsi_no h3 y hy
      · exact hsi_no h4 y hy
    · simp only [h0, if_false]
      exact ih'
theorem etd_nd (l : List It) : ((etd 4096 l).1.map (·.id)).Nodup ∧ ((etd 4096 l).2.1.map (·.id)).Nodup := by
  have h := etd_nodup (m := 4096) l l.length (Nat.le_refl _)
  rw [List.take_length] at h
  have h2 := ((etd_perm 4096 l).map (·.id)).nodup_iff.1 h
  rw [List.map_append, List.nodup_append] at h2
  exact ⟨h2.1, h2.2.1⟩
end Go.Proofs.Ytknikhoobhgidaa
