/-
  Books that are the same answer alike.
-/
import Derived.Test.YtfgcfiejkjhebaaGn
import Derived.Test.YtfgcfiejkjhebaaGg
namespace Go.Proofs.Ytfgcfiejkjhebaa
open Go.RowKit Go.Deep Go.Shelf
set_option linter.unusedVariables false
set_option linter.unusedSimpArgs false
theorem Sm.symm {b b2 : Bs} (h : Sm b b2) : Sm b2 b := ⟨⟨h.num.1.symm, h.num.2.1.symm, h.num.2.2.1.symm, h.num.2.2.2.symm⟩, h.o1.symm, h.o2.symm⟩
theorem Sm.trans {a b c : Bs} (h : Sm a b) (k : Sm b c) : Sm a c := ⟨⟨k.num.1.trans h.num.1, k.num.2.1.trans h.num.2.1, k.num.2.2.1.trans h.num.2.2.1, k.num.2.2.2.trans h.num.2.2.2⟩, k.o1.trans h.o1, k.o2.trans h.o2⟩
theorem Sm.hgh {b b2 : Bs} (h : Sm b b2) (i : Int) : Sm (b.hgh i) (b2.hgh i) := ⟨⟨h.num.1, h.num.2.1, rfl, h.num.2.2.2⟩, h.o1, h.o2⟩
theorem fnd_map {id : Int} : ∀ {l l2 : LO}, l2.map (·.2) = l.map (·.2) → fnd id l2 = fnd id l
  | [], [], _ => rfl
  | [], y :: r, h => by simp at h
  | x :: r, [], h => by simp at h
  | x :: r, y :: r2, h => by
    simp only [List.map_cons, List.cons.injEq] at h
    unfold fnd
    rw [h.1, fnd_map h.2]
theorem get_map {l l2 : LO} (h : l2.map (·.2) = l.map (·.2)) {i : Nat} (hi : i < l.length) (hi2 : i < l2.length) : (l2[i]).2 = (l[i]).2 := by
  have : (l2.map (·.2))[i]? = (l.map (·.2))[i]? := by rw [h]
  simpa [List.getElem?_map, List.getElem?_eq_getElem hi, List.getElem?_eq_getElem hi2] using this
theorem fo_same {b b2 : Bs} (h : Sm b b2) (id : Int) : fo b2 id = fo b id := by
  have e1 := fnd_map (id := id) h.o1
  have e2 := fnd_map (id := id) h.o2
  have g1 := fnd_ge id b.l1
  have g2 := fnd_ge id b.l2
  have g3 := fnd_ge id b2.l1
  have g4 := fnd_ge id b2.l2
  unfold fo
  by_cases h1 : 0 ≤ fnd id b.l1
  · rw [dif_pos h1, dif_pos (by rw [e1]; exact h1)]
    simp only [Prod.mk.injEq, and_self, and_true]
    simp only [e1]
    exact get_map h.o1 (by omega) (by omega)
  · rw [dif_neg h1, dif_neg (by rw [e1]; exact h1)]
    by_cases h2 : 0 ≤ fnd id b.l2
    · rw [dif_pos h2, dif_pos (by rw [e2]; exact h2)]
      simp only [Prod.mk.injEq, and_self, and_true]
      simp only [e2]
      exact get_map h.o2 (by omega) (by omega)
    · rw [dif_neg h2, dif_neg (by rw [e2]; exact h2)]
theorem cmN_same {b b2 : Bs} (h : Sm b b2) (c : Cm) : cmN b2 c = cmN b c := by unfold cmN; rw [fo_same h]
theorem rfs_same {b b2 : Bs} (h : Sm b b2) (c : Cm) : rfs b2 c = rfs b c := by
  have n1 : b2.l1.length = b.l1.length := by have := congrArg List.length h.o1; simpa using this
  have n2 : b2.l2.length = b.l2.length := by have := congrArg List.length h.o2; simpa using this
  unfold rfs
  rw [fo_same h, cmN_same h, h.num.1, h.num.2.2.1, n1, n2, mts_same h (Lk.refl _)]
theorem mes_same {b b2 : Bs} (h : Sm b b2) (s q : Int) : mes b2 s q = mes b s q := by unfold mes; rw [h.len]
theorem cms_same2 {o o2 : Or} {s : Int} (hs : s = 1 ∨ s = 2) (k : Lk o o2) : ∀ (n : Nat) (b b2 : Bs) (es : List Ev) (q : Int), Sm b b2 → (cms o2 s n (b2, es, q)).2 = (cms o s n (b, es, q)).2 ∧ Sm (cms o s n (b, es, q)).1 (cms o2 s n (b2, es, q)).1
  | 0, b, b2, es, q, h => ⟨rfl, h⟩
  | n + 1, b, b2, es, q, h => by
    by_cases hc : 0 < q ∧ mts b o s = true
    · have hc2 : 0 < q ∧ mts b2 o2 s = true := ⟨hc.1, by rw [mts_same h k]; exact hc.2⟩
      obtain ⟨f, x, r, hl⟩ := mts_cons hc.2
      obtain ⟨f2, x2, r2, hl2⟩ := mts_cons hc2.2
      have e := h.sl (oth s)
      rw [hl, hl2] at e
      simp only [List.map_cons, List.cons.injEq] at e
      obtain ⟨rfl, hr⟩ := e
      rw [cms_step hc hl, cms_step hc2 hl2]
      obtain ⟨e1, e2⟩ := mtB_same (q := q) hs h k hl hl2 hr
      rw [e1]
      exact cms_same2 hs k n _ _ _ _ e2
    · have hc2 : ¬ (0 < q ∧ mts b2 o2 s = true) := by rw [mts_same h k]; exact hc
      rw [cms_end (c := (b, es, q)) hc, cms_end (c := (b2, es, q)) hc2]
      exact ⟨rfl, h⟩
theorem came_same {o : Or} {s : Int} {c c2 : Bs × List Ev × Int} {n n2 : Nat} {b' b2' : Bs} {es' es2' : List Ev} (hs : s = 1 ∨ s = 2) (e : c2.2 = c.2) (h : Sm c.1 c2.1) (h1 : Came o s c n b' es') (h2 : Came o s c2 n2 b2' es2') : es2' = es' ∧ Sm b' b2' := by
  obtain ⟨b, es, q⟩ := c
  obtain ⟨b2, es2, q2⟩ := c2
  obtain ⟨rfl, rfl⟩ : es2 = es ∧ q2 = q := by simpa using e
  rcases h1 with ⟨a, rfl, rfl⟩ | ⟨a, r, rfl, p', c', blk, _, rfl⟩ | ⟨a, r, rfl, rfl⟩
  · rcases h2 with ⟨_, rfl, rfl⟩ | ⟨a', _⟩ | ⟨a', _⟩
    · exact ⟨rfl, h⟩
    · simp only at a a'; omega
    · simp only at a a'; omega
  · rcases h2 with ⟨a', _⟩ | ⟨_, _, rfl, p2, c2, blk2, _, rfl⟩ | ⟨_, r', _⟩
    · simp only at a a'; omega
    · refine ⟨rfl, h.put hs ?_⟩
      rw [bhd_map (h.sl s)]
      exact ins_map rfl (h.sl s)
    · rw [r] at r'; cases r'
  · rcases h2 with ⟨a', _⟩ | ⟨_, r', _⟩ | ⟨_, _, rfl, rfl⟩
    · simp only at a a'; omega
    · rw [r] at r'; cases r'
    · exact ⟨by simp only; rw [h.num.2.2.2], h.told⟩
theorem trd_same {b b2 : Bs} {o : Or} {s q : Int} {v v2 : Bool} (hs : s = 1 ∨ s = 2) (h : Sm b b2) (h1 : Trd b o s q v) (h2 : Trd b2 o s q v2) : v2 = v := by
  obtain ⟨a, n, a3, e3, sa, ca, rfl⟩ := h1
  obtain ⟨a', n', a3', e3', sa', ca', rfl⟩ := h2
  rw [mes_same h] at ca'
  obtain ⟨x1, x2⟩ := cms_same2 (o := o.ioc) hs (Lk.refl _) (mes b s q + 1) a a' [] q (sa.symm.trans (h.trans sa'))
  rw [(came_same hs x1 x2 ca ca').1]
theorem took_same {b b2 : Bs} {es : List Ev} {o : Or} {s q : Int} {b' b2' : Bs} {es' es2' : List Ev} (hs : s = 1 ∨ s = 2) (h : Sm b b2) (h1 : Took b es o s q b' es') (h2 : Took b2 es o s q b2' es2') : es2' = es' ∧ Sm b' b2' := by
  have hh : Sm (b.hgh o.id).told (b2.hgh o.id).told := (h.hgh _).told
  have hsq := h.num.2.2.2
  rcases h1 with ⟨t4, u1, rfl, rfl⟩ | ⟨u1, n, hc⟩
  · rcases h2 with ⟨_, _, rfl, rfl⟩ | ⟨u2, _⟩
    · exact ⟨by rw [hsq], hh.told⟩
    · have := trd_same hs hh u1 (u2 t4); cases this
  · rcases h2 with ⟨t4, u2, _⟩ | ⟨_, n2, hc2⟩
    · have := trd_same hs hh (u1 t4) u2; cases this
    · rw [hsq, mes_same h] at hc2
      obtain ⟨x1, x2⟩ := cms_same2 (o := o) hs (Lk.refl _) (mes b s q + 1) (b.hgh o.id).told (b2.hgh o.id).told (es ++ [(evA o s q).num (nx b.seq)]) q hh
      exact came_same hs x1 x2 hc hc2
theorem erase_map {l l2 : LO} (h : l2.map (·.2) = l.map (·.2)) (i : Nat) : (l2.eraseIdx i).map (·.2) = (l.eraseIdx i).map (·.2) := by
  rw [List.eraseIdx_eq_take_drop_succ, List.eraseIdx_eq_take_drop_succ, List.map_append, List.map_append, List.map_take, List.map_take, List.map_drop, List.map_drop, h]
theorem Sm.del {b b2 : Bs} (h : Sm b b2) {s : Int} (hs : s = 1 ∨ s = 2) (i : Nat) : Sm (b.del s i) (b2.del s i) := h.put hs (erase_map (h.sl s) i)
theorem fd_same {b b2 : Bs} {id : Int} {o o2 : Or} {s s2 : Int} {k k2 i i2 : Nat} (h : Sm b b2) (h1 : Fd b id o s k i) (h2 : Fd b2 id o2 s2 k2 i2) : o2 = o ∧ s2 = s ∧ i2 = i := by
  have e := h2.ff
  rw [fo_same h, h1.ff] at e
  simp only [Prod.mk.injEq, and_true] at e
  obtain ⟨rfl, rfl⟩ := e
  refine ⟨rfl, rfl, ?_⟩
  have e2 := h2.fi
  rw [fnd_map (h.sl s), h1.fi] at e2
  omega
/-- Do of books that are the same. -/
theorem did_same {b b2 : Bs} {c : Cm} {b' b2' : Bs} {es' es2' : List Ev} (h : Sm b b2) (h1 : Did b c b' es') (h2 : Did b2 c b2' es2') : es2' = es' ∧ Sm b' b2' := by
  have hr := rfs_same h c
  have hsq := h.num.2.2.2
  unfold Did at h2
  rw [hr, hsq, cmN_same h] at h2
  rcases h1 with ⟨a, rfl, rfl⟩ | ⟨a, k, o, s, kk, i, hf, rfl, rfl⟩ | ⟨a, k, ht⟩ | ⟨a, k, o, s, kk, i, hf, ht⟩
  · rcases h2 with ⟨_, rfl, rfl⟩ | ⟨a', _⟩ | ⟨a', _⟩ | ⟨a', _⟩
    · exact ⟨rfl, h.told⟩
    · exact absurd a' a
    · exact absurd a' a
    · exact absurd a' a
  · rcases h2 with ⟨a', _⟩ | ⟨_, _, o2, s2, kk2, i2, hf2, rfl, rfl⟩ | ⟨_, k', _⟩ | ⟨_, k', _⟩
    · exact absurd a a'
    · obtain ⟨rfl, rfl, rfl⟩ := fd_same h hf hf2
      exact ⟨rfl, (h.del hf.side _).told⟩
    · omega
    · omega
  · rcases h2 with ⟨a', _⟩ | ⟨_, k', _⟩ | ⟨_, _, ht2⟩ | ⟨_, k', _⟩
    · exact absurd a a'
    · omega
    · rcases rfs_zero a with ⟨k', _⟩ | ⟨_, hs, q1, q2⟩ | ⟨k', _⟩
      · omega
      · have e : cmN b c = c := by unfold cmN; rw [if_neg (by omega)]
        exact took_same (by rw [e]; exact hs) h ht ht2
      · omega
    · omega
  · rcases h2 with ⟨a', _⟩ | ⟨_, k', _⟩ | ⟨_, k', _⟩ | ⟨_, _, o2, s2, kk2, i2, hf2, ht2⟩
    · exact absurd a a'
    · omega
    · omega
    · obtain ⟨rfl, rfl, rfl⟩ := fd_same h hf hf2
      have hsd : (cmN b c).sd = s2 := by unfold cmN; rw [if_pos k, hf.ff]
      exact took_same (by rw [hsd]; exact hf.side) (h.del hf.side _).told ht ht2
theorem Sm.gb {b b2 : Bs} (h : Sm b b2) (g : Gb b) : Gb b2 := by
  have n1 : b2.l1.length = b.l1.length := by have := congrArg List.length h.o1; simpa using this
  have n2 : b2.l2.length = b.l2.length := by have := congrArg List.length h.o2; simpa using this
  have hl := g.len
  have hc := g.cap
  have e1 := h.num.1
  unfold lns at hl
  refine ⟨h.vb g.vb, by unfold lns; omega, by omega, fun S y hy => ?_⟩
  have : y.2 ∈ (b2.sl S).map (·.2) := List.mem_map.2 ⟨y, hy, rfl⟩
  rw [h.sl S] at this
  obtain ⟨z, hz, e⟩ := List.mem_map.1 this
  rw [← e, h.num.2.2.1]
  exact g.ids S z hz
end Go.Proofs.Ytfgcfiejkjhebaa
