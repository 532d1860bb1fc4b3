/-
  The levels of a side can be; the first ones of them.
-/
import Derived.Test.YtojmcfkbekodpaaRc
import Derived.Test.YtojmcfkbekodpaaRi
import Derived.Test.YtojmcfkbekodpaaPl
import Derived.Test.YtojmcfkbekodpaaPz
import Derived.Test.YtojmcfkbekodpaaPr
namespace Go.Proofs.Ytojmcfkbekodpaa
open Go.RowKit Go.Deep Go.Shelf
set_option linter.unusedVariables false
set_option linter.unusedSimpArgs false
set_option maxHeartbeats 1000000
set_option maxRecDepth 100000
theorem dpl_take (s : Int) : ∀ (M d : Nat) (l : LO), d ≤ M → (dpl s M l).take d = dpl s d l
  | M, 0, l, _ => by simp [dpl]
  | 0, d + 1, l, h => by omega
  | M + 1, d + 1, [], _ => by simp [dpl]
  | M + 1, d + 1, x :: r, h => by
    simp only [dpl, List.take_succ_cons]
    rw [dpl_take s M d _ (by omega)]
theorem dpl_len (s : Int) : ∀ (M : Nat) (l : LO), (dpl s M l).length ≤ M ∧ (dpl s M l).length ≤ l.length
  | 0, l => by simp [dpl]
  | M + 1, [] => by simp [dpl]
  | M + 1, x :: r => by
    have h := dpl_len s M ((x :: r).drop (bhd s x.2.pr (x :: r)))
    have hp := bhd_pos0 (s := s) (l := x :: r) (by simp)
    simp only [List.getElem_cons_zero] at hp
    rw [List.length_drop] at h
    simp only [dpl, List.length_cons] at h ⊢
    omega
theorem dpl_head {s : Int} {m : Nat} {l : LO} {y : Int × Int × Int} {t : List (Int × Int × Int)} (h : dpl s m l = y :: t) : ∃ z ∈ l, z.2.pr = y.1 := by
  cases m with
  | zero => simp [dpl] at h
  | succ m =>
    cases l with
    | nil => simp [dpl] at h
    | cons x r =>
      simp only [dpl, List.cons.injEq] at h
      exact ⟨x, by simp, by rw [← h.1]⟩
theorem vsum_ge {l : LO} (h : ∀ x ∈ l, 1 ≤ x.2.vi) : (l.length : Int) ≤ vsum l := by
  induction l with
  | nil => simp [vsum]
  | cons x l ih =>
    have a := ih (fun y hy => h y (by simp [hy]))
    have b := h x (by simp)
    simp only [vsum, List.map_cons, List.sum_cons, List.length_cons] at a ⊢
    omega
/-- the feed's levels. -/
def lvs (L : List (Int × Int × Int)) : List Fd.Lv := L.map fun x => ⟨x.1, x.2.1, x.2.2⟩
theorem lvs_len (L : List (Int × Int × Int)) : (lvs L).length = L.length := by simp [lvs]
theorem lvs_take (L : List (Int × Int × Int)) (d : Nat) : (lvs L).take d = lvs (L.take d) := by simp [lvs, List.map_take]
theorem lvs_cells (L : List (Int × Int × Int)) : Fd.lvc (lvs L) = dlc L := by simp [Fd.lvc, lvs, dlc, List.flatMap_map]
theorem lok_cons {s : Int} {x : Fd.Lv} {t : List Fd.Lv} (hx : Fd.lvG x = true) (ht : Fd.lok s t = true) (hb : ∀ y t', t = y :: t' → Fd.bt s x.pr y.pr = true) : Fd.lok s (x :: t) = true := by
  cases t with
  | nil => exact hx
  | cons y t =>
    show (Fd.lvG x && Fd.bt s x.pr y.pr && Fd.lok s (y :: t)) = true
    rw [hx, hb y t rfl, ht]
    rfl
theorem dpl_lok (s : Int) : ∀ (M : Nat) (l : LO), Srt s l → (∀ x ∈ l, OrS x.2) → Fd.lok s (lvs (dpl s M l)) = true
  | 0, l, _, _ => by simp [dpl, lvs, Fd.lok]
  | M + 1, [], _, _ => by simp [dpl, lvs, Fd.lok]
  | M + 1, x :: r, hs, ho => by
    have hp := bhd_pos0 (s := s) (l := x :: r) (by simp)
    have hle := bhd_le s x.2.pr (x :: r)
    simp only [List.getElem_cons_zero] at hp
    have hd := bhd_drop (s := s) (p := x.2.pr) hs
    have ih := dpl_lok s M ((x :: r).drop (bhd s x.2.pr (x :: r))) (hs.drop _) (fun y hy => ho y (List.mem_of_mem_drop hy))
    have hg := vsum_ge (l := (x :: r).take (bhd s x.2.pr (x :: r))) (fun y hy => (ho y (List.mem_of_mem_take hy)).vi)
    rw [List.length_take, Nat.min_eq_left hle] at hg
    have hx := ho x (by simp)
    simp only [dpl]
    show Fd.lok s (⟨x.2.pr, vsum ((x :: r).take (bhd s x.2.pr (x :: r))), (bhd s x.2.pr (x :: r) : Int)⟩ :: lvs (dpl s M ((x :: r).drop (bhd s x.2.pr (x :: r))))) = true
    refine lok_cons ?_ ih (fun y t' e => ?_)
    · simp only [Fd.lvG, decide_eq_true_eq]
      exact ⟨hx.p0, hx.p1, by omega, by omega⟩
    · obtain ⟨z, t, hz⟩ : ∃ z t, dpl s M ((x :: r).drop (bhd s x.2.pr (x :: r))) = z :: t := by
        cases hh : dpl s M ((x :: r).drop (bhd s x.2.pr (x :: r))) with
        | nil => rw [hh] at e; simp [lvs] at e
        | cons z t => exact ⟨z, t, rfl⟩
      obtain ⟨u, hu, hup⟩ := dpl_head hz
      rw [hz] at e
      simp only [lvs, List.map_cons, List.cons.injEq] at e
      have h1 := hd u hu
      rw [hup] at h1
      rw [← e.1]
      exact h1
end Go.Proofs.Ytojmcfkbekodpaa
namespace Go.Proofs.Ytojmcfkbekodpaa
open Go.RowKit Go.Deep Go.Shelf
set_option linter.unusedVariables false
set_option linter.unusedSimpArgs false
set_option maxHeartbeats 1000000
set_option maxRecDepth 100000
/-- a trade that can be. -/
def TrG (e : Ev) : Prop := e.kd = 3 → (e.sd = 1 ∨ e.sd = 2) ∧ 0 ≤ e.pr ∧ e.pr < 262144 ∧ 1 ≤ e.qt
theorem trg_no {e : Ev} (h : e.kd ≠ 3) : TrG e := fun k => absurd k h
theorem tre_trg {n : Int} {o : Or} {s : Int} {x : Or} {q : Int} (hs : s = 1 ∨ s = 2) (hx : OrS x) (hq : 1 ≤ q) : ∀ e ∈ tre n o s x q, TrG e := by
  have h1 : TrG ((evT o s x q).num (nx n)) := fun _ => ⟨hs, hx.p0, hx.p1, hq⟩
  intro e he
  unfold tre at he
  split at he
  · simp only [List.mem_singleton] at he; rw [he]; exact h1
  · split at he
    · simp only [List.mem_singleton] at he; rw [he]; exact h1
    · simp only [List.mem_cons, List.not_mem_nil, or_false] at he
      rcases he with rfl | rfl
      · exact h1
      · exact trg_no (by simp [evF, Ev.num])
theorem mtB_trg {b : Bs} {o : Or} {s q : Int} {f : Nat} {x : Or} {r : LO} (hs : s = 1 ∨ s = 2) (hx : OrS x) (hq : 0 < q) : ∀ e ∈ (mtB b o s q f x r).2.1, TrG e := by
  have hv := hx.vi
  intro e he
  unfold mtB at he
  split at he
  · exact tre_trg hs hx (by omega) e he
  · split at he
    · simp only [List.mem_singleton] at he; rw [he]; exact trg_no (by simp [evC, Ev.num])
    · split at he
      · simp only [List.mem_singleton] at he; rw [he]; exact trg_no (by simp [evC, Ev.num])
      · simp only [List.mem_cons, List.not_mem_nil, or_false] at he
        rcases he with rfl | rfl <;> exact trg_no (by simp [evC, Ev.num])
theorem cms_trg {o : Or} {s : Int} (hs : s = 1 ∨ s = 2) : ∀ (n : Nat) (b : Bs) (es : List Ev) (q : Int), Vb b → Snd b → 0 ≤ q → (∀ e ∈ es, TrG e) → ∀ e ∈ (cms o s n (b, es, q)).2.1, TrG e
  | 0, b, es, q, v, k, hq, h => h
  | n + 1, b, es, q, v, k, hq, h => by
    by_cases hc : 0 < q ∧ mts b o s = true
    · obtain ⟨f, x, r, hl⟩ := mts_cons hc.2
      rw [cms_step hc hl]
      obtain ⟨v', m', _, q0, q1⟩ := v.met (o := o) hs hl hc.1
      have hx : OrS x := k.ok (oth s) (f, x) (by rw [hl]; simp)
      refine cms_trg (o := o) hs n _ _ _ v' ((mtB_sbp hs hl hc.1 (v.ok (oth s) (f, x) (by rw [hl]; simp)).1).snd k) q0 (fun e he => ?_)
      rcases List.mem_append.1 he with he | he
      · exact h e he
      · exact mtB_trg hs hx hc.1 e he
    · rw [cms_end hc]
      exact h
theorem Took.trg {b : Bs} {es : List Ev} {o : Or} {s q : Int} {b' : Bs} {es' : List Ev} (h : Took b es o s q b' es') (v : Vb b) (k : Snd b) (hs : s = 1 ∨ s = 2) (q0 : 0 ≤ q) (he : ∀ e ∈ es, TrG e) : ∀ e ∈ es', TrG e := by
  have ha : ∀ e ∈ es ++ [(evA o s q).num (nx b.seq)], TrG e := fun e h' => by
    rcases List.mem_append.1 h' with h' | h'
    · exact he e h'
    · simp only [List.mem_singleton] at h'; rw [h']; exact trg_no (by simp [evA, Ev.num])
  rcases h with ⟨_, _, rfl, rfl⟩ | ⟨_, n, hcm⟩
  · intro e h'
    rcases List.mem_append.1 h' with h' | h'
    · exact ha e h'
    · simp only [List.mem_singleton] at h'; rw [h']; exact trg_no (by simp [evC, Ev.num])
  · have hc := cms_trg (o := o) hs (mes b s q + 1) (b.hgh o.id).told (es ++ [(evA o s q).num (nx b.seq)]) q (v.hgh _).told (k.hgh _).told q0 ha
    rcases hcm with ⟨_, rfl, rfl⟩ | ⟨hq, hr, rfl, p', c', blk, _, rfl⟩ | ⟨hq, hr, rfl, rfl⟩
    · exact hc
    · exact hc
    · intro e h'
      rcases List.mem_append.1 h' with h' | h'
      · exact hc e h'
      · simp only [List.mem_singleton] at h'; rw [h']; exact trg_no (by simp [evC, Ev.num])
theorem Did.trg {b : Bs} {c : Cm} {b' : Bs} {es' : List Ev} (h : Did b c b' es') (g : Gb b) (k : Snd b) (hc : CmOk c) : ∀ e ∈ es', TrG e := by
  have hC : ∀ (a q r n : Int), TrG ((evC a q r).num n) := fun a q r n => trg_no (by simp [evC, Ev.num])
  rcases h with ⟨_, rfl, rfl⟩ | ⟨_, _, o, s, kk, i, hf, rfl, rfl⟩ | ⟨h0, k1, ht⟩ | ⟨h0, k3, o, s, kk, i, hf, ht⟩
  · intro e he
    simp only [List.mem_singleton] at he; rw [he]; exact trg_no (by simp [evR, Ev.num])
  · intro e he
    simp only [List.mem_singleton] at he; rw [he]; exact hC _ _ _ _
  · have e : cmN b c = c := by unfold cmN; rw [if_neg (by omega)]
    rcases rfs_zero h0 with ⟨k', _⟩ | ⟨_, hs, q1, q2⟩ | ⟨k', _⟩
    · omega
    · exact ht.trg g.vb k (by rw [e]; exact hs) (by omega) (fun e he => by simp at he)
    · omega
  · rcases rfs_zero h0 with ⟨k', _⟩ | ⟨k', _⟩ | ⟨_, _, q1, q2⟩
    · omega
    · omega
    · have hsd : (cmN b c).sd = s := by unfold cmN; rw [if_pos k3, hf.ff]
      exact ht.trg (g.vb.del hf.side i).told ((Sbp.del hf.side i).snd k).told (by rw [hsd]; exact hf.side) (by omega) (fun e he => by simp only [List.mem_singleton] at he; rw [he]; exact hC _ _ _ _)
/-- the feed's events. -/
def fev (e : Ev) : Fd.Ev := ⟨e.sq, e.kd, e.id, e.ot, e.tg, e.mb, e.sd, e.ty, e.pr, e.qt, e.pk, e.rs, e.cd⟩
theorem trOk_of {es : List Ev} (h : ∀ e ∈ es, TrG e) : Fd.trOk (es.map fev) = true := by
  unfold Fd.trOk Fd.trd
  rw [List.all_eq_true]
  intro d hd
  obtain ⟨e, he, rfl⟩ := List.mem_map.1 hd
  obtain ⟨he, hk⟩ := List.mem_filter.1 he
  obtain ⟨e', he', rfl⟩ := List.mem_map.1 he
  have h3 : e'.kd = 3 := by simpa [fev] using hk
  obtain ⟨h1, h2, h4, h5⟩ := h e' he' h3
  simp only [Fd.dOk, Fd.tr1, fev, decide_eq_true_eq]
  exact ⟨by omega, h1, ⟨h2, h4⟩, .inr ⟨trivial, h5, trivial⟩⟩
end Go.Proofs.Ytojmcfkbekodpaa
namespace Go.Proofs.Ytojmcfkbekodpaa
open Go.RowKit Go.Deep Go.Shelf
set_option linter.unusedVariables false
set_option linter.unusedSimpArgs false
set_option maxHeartbeats 1000000
set_option maxRecDepth 100000
theorem cms_len {o : Or} {s : Int} (hs : s = 1 ∨ s = 2) : ∀ (n : Nat) (b : Bs) (es : List Ev) (q : Int), Vb b → 0 ≤ q → (cms o s n (b, es, q)).2.1.length ≤ es.length + 2 * n
  | 0, b, es, q, v, hq => Nat.le_refl _
  | n + 1, b, es, q, v, hq => by
    by_cases hc : 0 < q ∧ mts b o s = true
    · obtain ⟨f, x, r, hl⟩ := mts_cons hc.2
      rw [cms_step hc hl]
      obtain ⟨v', m', l2, q0, q1⟩ := v.met (o := o) hs hl hc.1
      have ih := cms_len (o := o) hs n (mtB b o s q f x r).1 (es ++ (mtB b o s q f x r).2.1) (mtB b o s q f x r).2.2 v' q0
      rw [List.length_append] at ih
      omega
    · rw [cms_end hc]
      show es.length ≤ _
      omega
theorem sl_le {b : Bs} (v : Vb b) (S : Int) : (b.sl S).length ≤ 1048576 := by
  have := v.len
  unfold Bs.sl
  split <;> omega
theorem Took.len {b : Bs} {es : List Ev} {o : Or} {s q : Int} {b' : Bs} {es' : List Ev} (h : Took b es o s q b' es') (v : Vb b) (hs : s = 1 ∨ s = 2) (q0 : 0 ≤ q) (q1 : q < 4294967296) : es'.length ≤ es.length + 8600000000 := by
  rcases h with ⟨_, _, rfl, rfl⟩ | ⟨_, n, hcm⟩
  · rw [List.length_append, List.length_append, List.length_singleton, List.length_singleton]
    omega
  · have hc := cms_len (o := o) hs (mes b s q + 1) (b.hgh o.id).told (es ++ [(evA o s q).num (nx b.seq)]) q (v.hgh _).told q0
    have hm : mes b s q ≤ 4294967295 + 1048576 := by
      have := sl_le v (oth s)
      unfold mes
      omega
    rw [List.length_append, List.length_singleton] at hc
    rcases hcm with ⟨_, rfl, rfl⟩ | ⟨hq, hr, rfl, p', c', blk, _, rfl⟩ | ⟨hq, hr, rfl, rfl⟩
    · omega
    · omega
    · rw [List.length_append, List.length_singleton]
      omega
theorem Did.len {b : Bs} {c : Cm} {b' : Bs} {es' : List Ev} (h : Did b c b' es') (g : Gb b) (hc : CmOk c) : es'.length ≤ 8600000001 := by
  rcases h with ⟨_, rfl, rfl⟩ | ⟨_, _, o, s, kk, i, hf, rfl, rfl⟩ | ⟨h0, k1, ht⟩ | ⟨h0, k3, o, s, kk, i, hf, ht⟩
  · rw [List.length_singleton]; omega
  · rw [List.length_singleton]; omega
  · have e : cmN b c = c := by unfold cmN; rw [if_neg (by omega)]
    rcases rfs_zero h0 with ⟨k', _⟩ | ⟨_, hs, q1, q2⟩ | ⟨k', _⟩
    · omega
    · have := ht.len g.vb (by rw [e]; exact hs) (by omega) (by omega)
      rw [List.length_nil] at this
      omega
    · omega
  · rcases rfs_zero h0 with ⟨k', _⟩ | ⟨k', _⟩ | ⟨_, _, q1, q2⟩
    · omega
    · omega
    · have hsd : (cmN b c).sd = s := by unfold cmN; rw [if_pos k3, hf.ff]
      have := ht.len (g.vb.del hf.side i).told (by rw [hsd]; exact hf.side) (by omega) (by omega)
      rw [List.length_singleton] at this
      omega
theorem Kp.fd {F : Nat → Prop} {w w' : World} (h : Kp F w w') : Fd.Kp F w w' := ⟨h.os, h.tape, h.output, h.size, h.obj⟩
theorem kp_of {F : Nat → Prop} {w w' : World} (h : Fd.Kp F w w') : Kp F w w' := ⟨h.os, h.tape, h.output, h.size, h.obj⟩
/-- a publisher that holds levels. -/
def Pq (U : World) (P d : Nat) (sq : Int) (l1 l2 : List Fd.Lv) : Prop := ∃ p1 c1 p2 c2, Fd.Pb U P d sq p1 c1 l1 p2 c2 l2 ∧ Fd.Lo 0 U p1 c1 l1 ∧ Fd.Lo 0 U p2 c2 l2
theorem Pq.on {U V : World} {P d : Nat} {sq : Int} {l1 l2 : List Fd.Lv} (h : Pq U P d sq l1 l2) (hb : Below U.heap.size U V) : Pq V P d sq l1 l2 := by
  obtain ⟨p1, c1, p2, c2, h1, h2, h3⟩ := h
  exact ⟨p1, c1, p2, c2, h1.on hb, h2.on hb, h3.on hb⟩
theorem Pq.kept {U V : World} {P d : Nat} {sq : Int} {l1 l2 : List Fd.Lv} {F : Nat → Prop} (h : Pq U P d sq l1 l2) (hk : Kp F U V) (hF : ∀ j c t, F j → U.heap[j]? = some (.cells c t (0, 0)) → t ≠ 73 ∧ t ≠ 71) : Pq V P d sq l1 l2 := by
  obtain ⟨p1, c1, p2, c2, h1, h2, h3⟩ := h
  have a1 := h2.kept hk.fd (fun g hg hf => by
    obtain ⟨cur, hc⟩ := h2.ty hg
    exact (hF g cur _ hf hc).2 rfl)
  have a2 := h3.kept hk.fd (fun g hg hf => by
    obtain ⟨cur, hc⟩ := h3.ty hg
    exact (hF g cur _ hf hc).2 rfl)
  exact ⟨p1, c1, p2, c2, ⟨hk.row h1.row (fun hf => (hF P _ _ hf h1.row).1 rfl), a1.rl, a2.rl, h1.k1, h1.k2, h1.n1, h1.n2, h1.d1, h1.d2, h1.sq⟩, a1, a2⟩
theorem bm_kinds {U : World} {B : Nat} {b : Bs} (h : Bm U B b) {j : Nat} {c : Array Value} {t : TypeId} (hj : b.fp B j) (hc : U.heap[j]? = some (.cells c t (0, 0))) : t ≠ 73 ∧ t ≠ 71 := by
  obtain ⟨c', t', h1, h2⟩ := h.ty hj
  rw [hc] at h1
  injection h1 with h1
  injection h1 with _ h1
  subst h1
  rcases h2 with rfl | rfl | rfl <;> decide
/-- a publisher and a book. -/
structure Js (w : World) (B P d : Nat) (b : Bs) (sq : Int) (l1 l2 : List Fd.Lv) (U : World) : Prop where
  pl : Pl w B b U
  sn : Snd b
  pq : Pq U P d sq l1 l2
  np : w.heap.size ≤ P
theorem Js.on {w : World} {B P d : Nat} {b : Bs} {sq : Int} {l1 l2 : List Fd.Lv} {U V : World} (h : Js w B P d b sq l1 l2 U) (hb : Below U.heap.size U V) : Js w B P d b sq l1 l2 V := ⟨h.pl.on hb, h.sn, h.pq.on hb, h.np⟩
theorem js_do {w : World} {B P d : Nat} {b : Bs} {sq : Int} {l1 l2 : List Fd.Lv} {U : World} (c : Cm) (h : Js w B P d b sq l1 l2 U) (hc : CmOk c) :
    Calls Try.prog 10 #[.pointer (some ⟨B, 0, none⟩), .agg (cmr c)] U fun e w' => ∃ b' p q es', e = .returned (.slice p es'.length q) ∧ Js w B P d b' sq l1 l2 w' ∧ Fd.Re w' p q (es'.map fev) ∧ Did b c b' es' ∧ (∀ e ∈ es', TrG e) ∧ es'.length ≤ 8600000001 ∧ w'.ownsRow 0 45 13 (.slice p es'.length q) es'.length (evs es') := by
  refine (do_any B b c U h.pl.bm h.pl.gb.vb hc).mono ?_
  rintro e w' ⟨T, b', ve', es', rfl, htd, hd⟩
  have hev := htd.tn.ev
  obtain ⟨p, q, rfl⟩ := own_form hev
  refine ⟨b', p, q, es', rfl, ⟨⟨h.pl.be.trans (htd.kp.below h.pl.be.size (fun j hj hf => by have := h.pl.nw j hf; omega)), htd.tn.bm, (hd.good h.pl.gb hc).1, fun j hj => ?_⟩, hd.snd h.pl.gb h.sn hc, h.pq.kept htd.kp (fun j c t hj hjc => bm_kinds h.pl.bm hj hjc), h.np⟩, ?_, hd, hd.trg h.pl.gb h.sn hc, hd.len h.pl.gb hc, hev⟩
  · rcases htd.fr j (.inr hj) with e | e
    · exact h.pl.nw j e
    · exact Nat.le_trans h.pl.be.size e
  · have hcells : Fd.evc (es'.map fev) = evs es' := by
      simp only [Fd.evc, evs, List.flatMap_map]
      rfl
    have hcp := Fd.own_cap hev
    refine ⟨fun e => ?_, by rw [List.length_map]; exact hcp.1, hcp.2.1, fun ad e => ?_⟩
    · obtain ⟨h1, h2⟩ := hcp.2.2 e
      exact ⟨by rw [List.eq_nil_of_length_eq_zero h1]; rfl, h2⟩
    · subst e
      rw [hcells]
      exact (Fd.own_cells hev).2
/-- the levels that are shown of a book. -/
def bl (b : Bs) (s : Int) (m : Nat) : List Fd.Lv := lvs (dpl s m (b.sl s))
theorem js_depth {w : World} {B P d : Nat} {b : Bs} {sq : Int} {l1 l2 : List Fd.Lv} {U : World} (s : Int) (m : Nat) (h : Js w B P d b sq l1 l2 U) (hs : s = 1 ∨ s = 2) :
    Calls Try.prog 12 #[.pointer (some ⟨B, 0, none⟩), .int .i64 s, .int .i64 m] U fun e w' => ∃ p c, e = .returned (.slice p (bl b s m).length c) ∧ Fd.Rl w' p c (bl b s m) ∧ Below U.heap.size U w' := by
  obtain ⟨k, hk, hks⟩ : ∃ k : Nat, k < 2 ∧ s = (k : Int) + 1 := by
    rcases hs with rfl | rfl
    · exact ⟨0, by decide, rfl⟩
    · exact ⟨1, by decide, rfl⟩
  have hd := depth_any B k b m U h.pl.bm hk (sl_le h.pl.gb.vb _) (h.pl.gb.vb.srt _ (by rw [← hks]; exact hs)) (fun x hx => by
    have := h.sn.ok _ x hx
    have a := this.vi
    have b := this.al
    have c := this.hi
    omega)
  rw [← hks] at hd
  refine hd.mono ?_
  rintro e w' ⟨v, rfl, ho, hb⟩
  rw [Int.toNat_natCast] at ho
  obtain ⟨p, c, rfl⟩ := own_form ho
  refine ⟨p, c, by unfold bl; rw [lvs_len], ?_, hb⟩
  have : Fd.Lo U.heap.size w' p c (bl b s m) := by
    unfold Fd.Lo bl
    rw [lvs_len, lvs_cells]
    exact ho
  exact this.rl
theorem bl_take (b : Bs) (s : Int) (M d : Nat) (h : d ≤ M) : (bl b s M).take d = bl b s d := by
  unfold bl
  rw [lvs_take, dpl_take s M d _ h]
theorem js_pubOk {w : World} {B P d : Nat} {b : Bs} {sq : Int} {l1 l2 : List Fd.Lv} {U : World} {es : List Ev} (h : Js w B P d b sq l1 l2 U) (he : ∀ e ∈ es, TrG e) (m : Nat) : Fd.pubOk (bl b 1 m) (bl b 2 m) (es.map fev) = true := by
  unfold Fd.pubOk bl
  rw [trOk_of he, dpl_lok 1 m _ (h.pl.gb.vb.srt 1 (.inl rfl)) (h.sn.ok 1), dpl_lok 2 m _ (h.pl.gb.vb.srt 2 (.inr rfl)) (h.sn.ok 2)]
  rfl
theorem js_publish {w : World} {B P d : Nat} {b : Bs} {sq : Int} {l1 l2 : List Fd.Lv} {U : World} {es : List Ev} {M : Nat} {pb ps pe : Option Addr} {cb cs ce : Nat} (h : Js w B P d b sq l1 l2 U) (he : ∀ e ∈ es, TrG e) (hl : es.length ≤ 8600000001) (hdM : d ≤ M) (rb : Fd.Rl U pb cb (bl b 1 M)) (rs : Fd.Rl U ps cs (bl b 2 M)) (re : Fd.Re U pe ce (es.map fev)) :
    Calls Try.prog 11 #[.pointer (some ⟨P, 0, none⟩), .slice pb (bl b 1 M).length cb, .slice ps (bl b 2 M).length cs, .slice pe es.length ce] U fun e w' => ∃ q dd, e = .returned (.tuple #[.slice q (Fd.nmb sq (Fd.trd (es.map fev) ++ Fd.chg 1 l1 (bl b 1 d) ++ Fd.chg 2 l2 (bl b 2 d))).length dd, .int .i64 0]) ∧ Fd.Dw U.heap.size w' q dd (Fd.nmb sq (Fd.trd (es.map fev) ++ Fd.chg 1 l1 (bl b 1 d) ++ Fd.chg 2 l2 (bl b 2 d))) ∧ Js w B P d b (Fd.uw (sq + (Fd.trd (es.map fev) ++ Fd.chg 1 l1 (bl b 1 d) ++ Fd.chg 2 l2 (bl b 2 d)).length)) (bl b 1 d) (bl b 2 d) w' ∧ Kp (fun b => b = P) U w' := by
  obtain ⟨p1, c1, p2, c2, h1, h2, h3⟩ := h.pq
  have hok := js_pubOk h he M
  have hp := Fd.publish_all P d sq p1 p2 pb ps pe c1 c2 cb cs ce l1 l2 (bl b 1 M) (bl b 2 M) (es.map fev) U h1 rb rs re (by rw [List.length_map]; omega) h2 h3
  rw [List.length_map] at hp
  refine hp.mono ?_
  rintro e w' ⟨q, dd, q1, e1, q2, e2, rfl, hd, hpb, hk, o1, o2, _, _⟩
  simp only [Fd.pM, Fd.pS, Fd.pA, Fd.pB, Fd.pE, hok, if_true, Fd.pubT, bl_take b _ M d hdM] at hd hpb o1 o2 ⊢
  have hk' := kp_of hk
  have hnf : ∀ j, b.fp B j → ¬ j = P := fun j hj e => by
    subst e
    exact (bm_kinds h.pl.bm hj h1.row).1 rfl
  exact ⟨q, dd, rfl, hd, ⟨⟨h.pl.be.trans (hk'.below h.pl.be.size (fun j hj e => by have := h.np; omega)), h.pl.bm.kept hk' hnf, h.pl.gb, h.pl.nw⟩, h.sn, ⟨q1, e1, q2, e2, hpb, o1, o2⟩, h.np⟩, hk'⟩
end Go.Proofs.Ytojmcfkbekodpaa
