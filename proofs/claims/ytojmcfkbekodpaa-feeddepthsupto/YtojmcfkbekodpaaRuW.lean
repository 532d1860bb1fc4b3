/-
  A book that can be stays one.
-/
import Derived.Test.YtojmcfkbekodpaaRuV
namespace Go.Proofs.Ytojmcfkbekodpaa
open Go.RowKit Go.Deep Go.Shelf
set_option linter.unusedVariables false
set_option linter.unusedSimpArgs false
theorem srt_pw {s : Int} {l : LO} : Srt s l ↔ l.Pairwise (fun a b => btt s b.2.pr a.2.pr = false) := by
  rw [List.pairwise_iff_getElem]
  exact ⟨fun h i j hi hj hij => h i j hi hj hij, fun h i j hi hj hij => h i j hi hj hij⟩
theorem btt_asym {s p q : Int} (h : btt s p q = true) : btt s q p = false := by
  unfold btt at *
  split at h <;> simp_all <;> omega
theorem btt_trans {s p q r : Int} (h : btt s q p = false) (k : btt s r q = false) : btt s r p = false := by
  unfold btt at *
  split at h <;> simp_all <;> omega
/-- an order is put where it belongs. -/
theorem srt_ins {s : Int} {l : LO} (h : Srt s l) {i : Nat} {x : Nat × Or} (h1 : ∀ y ∈ l.take i, btt s x.2.pr y.2.pr = false) (h2 : ∀ y ∈ l.drop i, btt s y.2.pr x.2.pr = false) : Srt s (ins i x l) := by
  rw [srt_pw] at h ⊢
  unfold ins
  have hh := h
  rw [← List.take_append_drop i l, List.pairwise_append] at hh
  rw [List.pairwise_append]
  refine ⟨hh.1, List.pairwise_cons.2 ⟨fun y hy => h2 y hy, hh.2.1⟩, fun a ha c hc => ?_⟩
  rcases List.mem_cons.1 hc with rfl | hc
  · exact h1 a ha
  · exact hh.2.2 a ha c hc
theorem bhd_take {s p : Int} {l : LO} : ∀ y ∈ l.take (bhd s p l), btt s p y.2.pr = false := by
  intro y hy
  have e : l.take (bhd s p l) = l.takeWhile fun x => !btt s p x.2.pr := by
    unfold bhd
    exact (List.prefix_iff_eq_take.1 (List.takeWhile_prefix _)).symm
  rw [e] at hy
  have := List.all_takeWhile (l := l) (p := fun x => !btt s p x.2.pr)
  rw [List.all_eq_true] at this
  simpa using this y hy
theorem bhd_at {s p : Int} : ∀ {l : LO} (h : bhd s p l < l.length), btt s p (l[bhd s p l]).2.pr = true
  | [], h => by simp at h
  | x :: r, h => by
    cases hx : btt s p x.2.pr with
    | true =>
      have e : bhd s p (x :: r) = 0 := by simp [bhd, List.takeWhile_cons, hx]
      simp [e, hx]
    | false =>
      have e : bhd s p (x :: r) = bhd s p r + 1 := by simp [bhd, List.takeWhile_cons, hx]
      have h' : bhd s p r < r.length := by rw [e] at h; simpa using h
      have := bhd_at (s := s) (p := p) (l := r) h'
      simp only [e, List.getElem_cons_succ]
      exact this
theorem bhd_drop {s p : Int} {l : LO} (h : Srt s l) : ∀ y ∈ l.drop (bhd s p l), btt s p y.2.pr = true := by
  intro y hy
  obtain ⟨j, hj, rfl⟩ := List.getElem_of_mem hy
  rw [List.getElem_drop]
  have hjl : bhd s p l + j < l.length := by simp at hj; omega
  have h0 : bhd s p l < l.length := by omega
  exact h.up p h0 hjl (by omega) (bhd_at h0)
theorem srt_enq {s : Int} {l : LO} (h : Srt s l) (x : Nat × Or) : Srt s (ins (bhd s x.2.pr l) x l) :=
  srt_ins h bhd_take (fun y hy => btt_asym (bhd_drop h y hy))
theorem srt_tail {s : Int} {x : Nat × Or} {r : LO} (h : Srt s (x :: r)) : Srt s r := by
  rw [srt_pw] at h ⊢
  exact (List.pairwise_cons.1 h).2
theorem srt_agn {s : Int} {x : Nat × Or} {r : LO} (h : Srt s (x :: r)) : Srt s (agn s (x :: r)) := by
  show Srt s (ins (bhd s x.2.pr (x :: r) - 1) x r)
  have hp := bhd_pos (s := s) (x := x) (r := r)
  obtain ⟨k, hk⟩ : ∃ k, bhd s x.2.pr (x :: r) = k + 1 := ⟨bhd s x.2.pr (x :: r) - 1, by omega⟩
  rw [hk, Nat.add_sub_cancel]
  have h1 := bhd_take (s := s) (p := x.2.pr) (l := x :: r)
  have h2 := bhd_drop (s := s) (p := x.2.pr) h
  rw [hk] at h1 h2
  exact srt_ins (srt_tail h) (fun y hy => h1 y (by simp [hy])) (fun y hy => btt_asym (h2 y (by simpa using hy)))
def OrOk (x : Or) : Prop := 0 < x.vi ∧ 0 ≤ x.hi ∧ x.vi + x.hi < 4294967296 ∧ 0 ≤ x.pk
/-- a book that can be. -/
structure Vb (b : Bs) : Prop where
  ok : ∀ s, ∀ y ∈ b.sl s, OrOk y.2
  srt : ∀ s, s = 1 ∨ s = 2 → Srt s (b.sl s)
  ids : Ids b
  len : b.l1.length + b.l2.length ≤ 1048576
theorem Vb.put {b : Bs} (h : Vb b) {S : Int} (hS : S = 1 ∨ S = 2) {p : Option Addr} {c : Nat} {l : LO} (h1 : ∀ y ∈ l, OrOk y.2) (h2 : Srt S l) (h3 : (l.map (·.2.id)).Nodup) (h4 : ∀ i ∈ l.map (·.2.id), i ∈ (b.sl S).map (·.2.id)) (h5 : l.length ≤ (b.sl S).length) : Vb (b.put S p c l) := by
  have hi := h.ids
  unfold Ids at hi
  rw [List.map_append, List.nodup_append] at hi
  have hl := h.len
  rcases hS with rfl | rfl
  · refine ⟨fun s y hy => ?_, fun s hs => ?_, ?_, ?_⟩
    · by_cases e : s = 1
      · subst e; exact h1 y hy
      · have : (b.put 1 p c l).sl s = b.sl s := by simp [Bs.put, Bs.sl, e]
        rw [this] at hy; exact h.ok s y hy
    · by_cases e : s = 1
      · subst e; exact h2
      · have : (b.put 1 p c l).sl s = b.sl s := by simp [Bs.put, Bs.sl, e]
        rw [this]; exact h.srt s hs
    · show ((l ++ b.l2).map (·.2.id)).Nodup
      rw [List.map_append, List.nodup_append]
      exact ⟨h3, hi.2.1, fun a ha c hc => hi.2.2 a (h4 a ha) c hc⟩
    · show l.length + b.l2.length ≤ 1048576
      have : l.length ≤ b.l1.length := h5
      omega
  · refine ⟨fun s y hy => ?_, fun s hs => ?_, ?_, ?_⟩
    · by_cases e : s = 1
      · subst e; exact h.ok 1 y hy
      · have : (b.put 2 p c l).sl s = l := by simp [Bs.put, Bs.sl, e]
        rw [this] at hy; exact h1 y hy
    · rcases hs with rfl | rfl
      · exact h.srt 1 (.inl rfl)
      · exact h2
    · show ((b.l1 ++ l).map (·.2.id)).Nodup
      rw [List.map_append, List.nodup_append]
      exact ⟨hi.1, h3, fun a ha c hc => hi.2.2 a ha c (h4 c hc)⟩
    · show b.l1.length + l.length ≤ 1048576
      have : l.length ≤ b.l2.length := h5
      omega
theorem Vb.told {b : Bs} (h : Vb b) : Vb b.told := ⟨h.ok, h.srt, h.ids, h.len⟩
theorem Vb.sids {b : Bs} (h : Vb b) (s : Int) : ((b.sl s).map (·.2.id)).Nodup := by
  have hi := h.ids
  unfold Ids at hi
  rw [List.map_append, List.nodup_append] at hi
  unfold Bs.sl
  split
  · exact hi.1
  · exact hi.2.1
theorem Vb.del {b : Bs} (h : Vb b) {S : Int} (hS : S = 1 ∨ S = 2) (i : Nat) : Vb (b.del S i) := by
  have hsub := List.eraseIdx_sublist (b.sl S) i
  refine h.put hS (fun y hy => h.ok S y (List.mem_of_mem_eraseIdx hy)) ?_ ((h.sids S).sublist (hsub.map _)) (fun j hj => (hsub.map _).subset hj) hsub.length_le
  have := h.srt S hS
  rw [srt_pw] at this ⊢
  exact this.sublist hsub
theorem shn_ok {x : Or} {q : Int} (h : OrOk x) (hA : ¬ 0 < x.vi - q) (hB : ¬ x.hi = 0) (hq : q ≤ x.vi) : OrOk (x.less q).shn ∧ (x.less q).shn.id = x.id ∧ (x.less q).shn.pr = x.pr := by
  obtain ⟨a, b, c, d⟩ := h
  refine ⟨?_, rfl, rfl⟩
  unfold OrOk Or.shn Or.less shw
  simp only
  split
  · simp only; omega
  · rename_i e
    simp only
    have : ¬ x.pk = 0 := fun h => e (.inl h)
    have : ¬ x.hi < x.pk := fun h => e (.inr h)
    omega
/-- a book behind a trade can be. -/
theorem Vb.trd {b : Bs} (h : Vb b) {s q : Int} (hs : s = 1 ∨ s = 2) {f : Nat} {x : Or} {r : LO} (hl : b.sl (oth s) = (f, x) :: r) (hq : q ≤ x.vi) (hq0 : 0 ≤ q) : Vb ((trb b x q).put (oth s) (b.sp (oth s)) (b.sc (oth s)) (trl (oth s) f x r q)) := by
  have hS := oth_side hs
  have hx := h.ok (oth s) (f, x) (by rw [hl]; simp)
  have hsr := h.srt (oth s) hS
  have hni := h.sids (oth s)
  rw [hl] at hsr hni
  have hv : Vb (trb b x q) ∧ (trb b x q).sl (oth s) = (f, x) :: r := by
    unfold trb
    split
    · exact ⟨h.told, hl⟩
    · split
      · exact ⟨h.told, hl⟩
      · exact ⟨h.told.told, hl⟩
  unfold trl
  split
  · rename_i hA
    refine hv.1.put hS (fun y hy => ?_) (hsr.upd rfl) hni (fun i hi => by rw [hv.2]; exact hi) (by rw [hv.2]; simp)
    rcases List.mem_cons.1 hy with rfl | hy
    · unfold OrOk at hx ⊢; simp only [Or.less]; simp only at hx; omega
    · exact h.ok (oth s) y (by rw [hl]; simp [hy])
  · rename_i hA
    split
    · refine hv.1.put hS (fun y hy => h.ok (oth s) y (by rw [hl]; simp [hy])) (srt_tail hsr) (by simp only [List.map_cons, List.nodup_cons] at hni; exact hni.2) (fun i hi => by rw [hv.2]; simp only [List.map_cons, List.mem_cons]; exact .inr hi) (by rw [hv.2]; simp)
    · rename_i hB
      have hk := shn_ok hx hA hB hq
      have hs2 : Srt (oth s) ((f, (x.less q).shn) :: r) := hsr.upd rfl
      have hp := agn_perm (oth s) ((f, (x.less q).shn) :: r)
      refine hv.1.put hS (fun y hy => ?_) (srt_agn hs2) ((hp.map _).nodup_iff.2 hni) (fun i hi => by rw [hv.2]; exact (hp.map _).mem_iff.1 hi) (by rw [agn_len, hv.2]; simp)
      rcases List.mem_cons.1 (hp.mem_iff.1 hy) with rfl | hy
      · exact hk.1
      · exact h.ok (oth s) y (by rw [hl]; simp [hy])
/-- how much is still to come. -/
def mes (b : Bs) (s q : Int) : Nat := q.toNat + (b.sl (oth s)).length
theorem Vb.met {b : Bs} (h : Vb b) {o : Or} {s q : Int} (hs : s = 1 ∨ s = 2) {f : Nat} {x : Or} {r : LO} (hl : b.sl (oth s) = (f, x) :: r) (hq : 0 < q) : Vb (mtB b o s q f x r).1 ∧ mes (mtB b o s q f x r).1 s (mtB b o s q f x r).2.2 < mes b s q ∧ (mtB b o s q f x r).2.1.length ≤ 2 ∧ 0 ≤ (mtB b o s q f x r).2.2 ∧ (mtB b o s q f x r).2.2 ≤ q := by
  have hS := oth_side hs
  have hx := h.ok (oth s) (f, x) (by rw [hl]; simp)
  have hvi := hx.1
  simp only at hvi
  have hdel : (b.del (oth s) 0).sl (oth s) = r := by
    unfold Bs.del
    rw [(b.put_sl (oth s) hS _ _ _).1, hl]
    rfl
  unfold mtB mes
  split
  · refine ⟨h.trd hs hl (by omega) (by omega), ?_, ?_, by simp only; omega, by simp only; omega⟩
    · simp only
      rw [((trb b x (min q x.vi)).put_sl (oth s) hS _ _ _).1, hl]
      have : (trl (oth s) f x r (min q x.vi)).length ≤ ((f, x) :: r : LO).length := by
        unfold trl
        split
        · simp
        · split
          · simp
          · rw [agn_len]; simp
      omega
    · simp only [tre]
      split
      · simp
      · split <;> simp
  · split
    · refine ⟨h.told, ?_, by simp, by simp, by simp only; omega⟩
      simp only
      rw [show b.told.sl (oth s) = b.sl (oth s) from rfl]
      omega
    · split
      · refine ⟨(h.del hS 0).told, ?_, by simp, by simp only; omega, by simp⟩
        simp only
        rw [show (b.del (oth s) 0).told.sl (oth s) = (b.del (oth s) 0).sl (oth s) from rfl, hdel, hl]
        simp
      · refine ⟨(h.del hS 0).told.told, ?_, by simp, by simp, by simp only; omega⟩
        simp only
        rw [show (b.del (oth s) 0).told.told.sl (oth s) = (b.del (oth s) 0).sl (oth s) from rfl, hdel, hl]
        simp only [List.length_cons]
        omega
end Go.Proofs.Ytojmcfkbekodpaa
