/-
  What trades: alike at books that are the same.
-/
import Derived.Test.YtfgcfiejkjhebaaGe
namespace Go.Proofs.Ytfgcfiejkjhebaa
open Go.RowKit Go.Deep Go.Shelf
set_option linter.unusedVariables false
set_option linter.unusedSimpArgs false
theorem bhd_map {s p : Int} {l l2 : LO} (h : l2.map (·.2) = l.map (·.2)) : bhd s p l2 = bhd s p l := by
  have e : ∀ l : LO, bhd s p l = ((l.map (·.2)).takeWhile fun y => !btt s p y.pr).length := fun l => by
    unfold bhd
    rw [List.takeWhile_map, List.length_map]
    rfl
  rw [e, e, h]
theorem ins_map {i : Nat} {x x2 : Nat × Or} {l l2 : LO} (hx : x2.2 = x.2) (h : l2.map (·.2) = l.map (·.2)) : (ins i x2 l2).map (·.2) = (ins i x l).map (·.2) := by
  unfold ins
  simp only [List.map_append, List.map_cons, List.map_take, List.map_drop, h, hx]
theorem agn_map {s : Int} {x x2 : Nat × Or} {r r2 : LO} (hx : x2.2 = x.2) (h : r2.map (·.2) = r.map (·.2)) : (agn s (x2 :: r2)).map (·.2) = (agn s (x :: r)).map (·.2) := by
  show (ins (bhd s x2.2.pr (x2 :: r2) - 1) x2 r2).map (·.2) = (ins (bhd s x.2.pr (x :: r) - 1) x r).map (·.2)
  have : bhd s x2.2.pr (x2 :: r2) = bhd s x.2.pr (x :: r) := by
    rw [hx]
    exact bhd_map (by simp [hx, h])
  rw [this]
  exact ins_map hx h
theorem trl_map {S : Int} {f f2 : Nat} {x : Or} {r r2 : LO} {q : Int} (h : r2.map (·.2) = r.map (·.2)) : (trl S f2 x r2 q).map (·.2) = (trl S f x r q).map (·.2) := by
  unfold trl
  split
  · simp [h]
  · split
    · exact h
    · exact agn_map rfl h
theorem Sm.told {b b2 : Bs} (h : Sm b b2) : Sm b.told b2.told := ⟨⟨h.num.1, h.num.2.1, h.num.2.2.1, by show nx _ = nx _; rw [h.num.2.2.2]⟩, h.o1, h.o2⟩
theorem Sm.put {b b2 : Bs} (h : Sm b b2) {s : Int} (hs : s = 1 ∨ s = 2) {p p2 : Option Addr} {c c2 : Nat} {l l2 : LO} (hl : l2.map (·.2) = l.map (·.2)) : Sm (b.put s p c l) (b2.put s p2 c2 l2) := by
  rcases hs with rfl | rfl
  · exact ⟨h.num, hl, h.o2⟩
  · exact ⟨h.num, h.o1, hl⟩
/-- two orders that meet alike. -/
structure Lk (o o2 : Or) : Prop where
  id : o2.id = o.id
  mb : o2.mb = o.mb
  pr : o2.pr = o.pr
  ty : (o2.ty == 2) = (o.ty == 2)
theorem mtB_same {b b2 : Bs} {o o2 : Or} {s q : Int} {f f2 : Nat} {x : Or} {r r2 : LO} (hs : s = 1 ∨ s = 2) (h : Sm b b2) (k : Lk o o2) (hl : b.sl (oth s) = (f, x) :: r) (hl2 : b2.sl (oth s) = (f2, x) :: r2) (hr : r2.map (·.2) = r.map (·.2)) :
    (mtB b2 o2 s q f2 x r2).2 = (mtB b o s q f x r).2 ∧ Sm (mtB b o s q f x r).1 (mtB b2 o2 s q f2 x r2).1 := by
  have hS := oth_side hs
  have hp : prt b2 o2 x = prt b o x := by unfold prt; rw [h.num.2.1, k.mb]
  have hsq := h.num.2.2.2
  have hm := h.num.2.1
  have hev : ∀ q', evT o2 s x q' = evT o s x q' := fun q' => by unfold evT; rw [k.id]
  unfold mtB
  rw [hp, hm, hsq, k.id]
  split
  · refine ⟨by simp only [tre, hev], ?_⟩
    have ht : Sm (trb b x (min q x.vi)) (trb b2 x (min q x.vi)) := by
      unfold trb
      split
      · exact h.told
      · split
        · exact h.told
        · exact h.told.told
    exact ht.put hS (trl_map hr)
  · have hd : Sm (b.del (oth s) 0) (b2.del (oth s) 0) := h.put hS (by rw [hl, hl2]; exact hr)
    split
    · exact ⟨rfl, h.told⟩
    · split
      · exact ⟨rfl, hd.told⟩
      · exact ⟨rfl, hd.told.told⟩
theorem mts_same {b b2 : Bs} {o o2 : Or} {s : Int} (h : Sm b b2) (k : Lk o o2) : mts b2 o2 s = mts b o s := by
  unfold mts
  have e := h.sl (oth s)
  cases hl : b.sl (oth s) with
  | nil => rw [hl] at e; simp only [List.map_nil, List.map_eq_nil_iff] at e; rw [e]; rfl
  | cons y r =>
    rw [hl] at e
    cases hl2 : b2.sl (oth s) with
    | nil => rw [hl2] at e; simp at e
    | cons y2 r2 =>
      rw [hl2] at e
      simp only [List.map_cons, List.cons.injEq] at e
      show rch o2 s y2.2.pr = rch o s y.2.pr
      unfold rch
      rw [e.1, k.ty, k.pr]
theorem cms_same {o o2 : Or} {s : Int} (hs : s = 1 ∨ s = 2) (k : Lk o o2) : ∀ (n : Nat) (b b2 : Bs) (es es2 : List Ev) (q : Int), Sm b b2 → ∃ add, (cms o s n (b, es, q)).2.1 = es ++ add ∧ (cms o2 s n (b2, es2, q)).2.1 = es2 ++ add ∧ (cms o2 s n (b2, es2, q)).2.2 = (cms o s n (b, es, q)).2.2
  | 0, b, b2, es, es2, q, h => ⟨[], by simp [cms], by simp [cms], rfl⟩
  | n + 1, b, b2, es, es2, q, h => by
    by_cases hc : 0 < q ∧ mts b o s = true
    · have hc2 : 0 < q ∧ mts b2 o2 s = true := ⟨hc.1, by rw [mts_same h k]; exact hc.2⟩
      obtain ⟨f, x, r, hl⟩ := mts_cons hc.2
      obtain ⟨f2, x2, r2, hl2⟩ := mts_cons hc2.2
      have e := h.sl (oth s)
      rw [hl, hl2] at e
      simp only [List.map_cons, List.cons.injEq] at e
      obtain ⟨rfl, hr⟩ := e
      rw [cms_step hc hl, cms_step hc2 hl2]
      obtain ⟨e1, e2⟩ := mtB_same (q := q) hs h k hl hl2 hr
      rw [e1]
      obtain ⟨add, g1, g2, g3⟩ := cms_same hs k n _ _ (es ++ (mtB b o s q f x2 r).2.1) (es2 ++ (mtB b o s q f x2 r).2.1) (mtB b o s q f x2 r).2.2 e2
      exact ⟨(mtB b o s q f x2 r).2.1 ++ add, by rw [g1, List.append_assoc], by rw [g2, List.append_assoc], g3⟩
    · have hc2 : ¬ (0 < q ∧ mts b2 o2 s = true) := by rw [mts_same h k]; exact hc
      rw [cms_end hc, cms_end hc2]
      exact ⟨[], by simp, by simp, rfl⟩
/-- what trades in what is told. -/
def trd : List Ev → Int
  | [] => 0
  | e :: es => (if e.kd = 3 then e.qt else 0) + trd es
theorem trd_append (a b : List Ev) : trd (a ++ b) = trd a + trd b := by
  induction a with
  | nil => simp [trd]
  | cons e es ih => simp only [List.cons_append, trd, ih]; omega
/-- each trade is of something. -/
def Pos (es : List Ev) : Prop := ∀ e ∈ es, e.kd = 3 → 0 ≤ e.qt
theorem trd_pos {es : List Ev} (h : Pos es) : 0 ≤ trd es := by
  induction es with
  | nil => exact Int.le_refl _
  | cons e es ih =>
    have h1 := ih (fun x hx => h x (List.mem_cons_of_mem _ hx))
    have h2 := h e (by simp)
    unfold trd
    split
    · have := h2 ‹_›; omega
    · omega
theorem fld_trd {es : List Ev} {q : Int} (h : Pos es) (h1 : trd es ≤ q) (h2 : q < 4294967296) : fld q es = q - trd es := by
  induction es generalizing q with
  | nil => simp [fld, trd]
  | cons e es ih =>
    have hp : Pos es := fun x hx => h x (List.mem_cons_of_mem _ hx)
    have h3 := trd_pos hp
    have h4 := h e (by simp)
    unfold fld
    unfold trd at h1 ⊢
    by_cases k : e.kd = 3
    · have := h4 k
      rw [if_pos k] at h1 ⊢
      rw [if_pos k]
      rw [show IntKind.u64.wrap (q - e.qt) = q - e.qt by rw [IntKind.wrap_u64]; omega]
      rw [ih hp (by omega) (by omega)]
      omega
    · rw [if_neg k] at h1 ⊢
      rw [if_neg k, ih hp (by omega) h2]
      omega
theorem mtB_trd {b : Bs} {o : Or} {s q : Int} {f : Nat} {x : Or} {r : LO} (hq : 0 ≤ q) (hx : 0 ≤ x.vi) : Pos (mtB b o s q f x r).2.1 ∧ trd (mtB b o s q f x r).2.1 + (mtB b o s q f x r).2.2 ≤ q := by
  unfold mtB
  split
  · simp only [tre]
    split
    · exact ⟨by intro e he; simp only [List.mem_singleton] at he; subst he; intro _; show 0 ≤ min q x.vi; omega, by simp [trd, evT, Ev.num]; omega⟩
    · split
      · exact ⟨by intro e he; simp only [List.mem_singleton] at he; subst he; intro _; show 0 ≤ min q x.vi; omega, by simp [trd, evT, Ev.num]; omega⟩
      · refine ⟨?_, by simp [trd, evT, evF, Ev.num]; omega⟩
        intro e he
        simp only [List.mem_cons, List.not_mem_nil, or_false] at he
        rcases he with rfl | rfl
        · intro _; show 0 ≤ min q x.vi; omega
        · intro h; cases h
  · split
    · exact ⟨by intro e he; simp only [List.mem_singleton] at he; subst he; intro h; exact absurd (show (4 : Int) = 3 from h) (by decide), by simp [trd, evC, Ev.num]; omega⟩
    · split
      · exact ⟨by intro e he; simp only [List.mem_singleton] at he; subst he; intro h; exact absurd (show (4 : Int) = 3 from h) (by decide), by simp [trd, evC, Ev.num]⟩
      · refine ⟨?_, by simp [trd, evC, Ev.num]; omega⟩
        intro e he
        simp only [List.mem_cons, List.not_mem_nil, or_false] at he
        rcases he with rfl | rfl <;> (intro h; cases h)
theorem cms_trd {o : Or} {s : Int} (hs : s = 1 ∨ s = 2) : ∀ (n : Nat) (b : Bs) (es : List Ev) (q : Int), Vb b → 0 ≤ q → Pos es → Pos (cms o s n (b, es, q)).2.1 ∧ trd (cms o s n (b, es, q)).2.1 + (cms o s n (b, es, q)).2.2 ≤ trd es + q
  | 0, b, es, q, v, hq, hp => ⟨hp, Int.le_refl _⟩
  | n + 1, b, es, q, v, hq, hp => by
    by_cases hc : 0 < q ∧ mts b o s = true
    · obtain ⟨f, x, r, hl⟩ := mts_cons hc.2
      rw [cms_step hc hl]
      obtain ⟨v', _, _, q0, q1⟩ := v.met (o := o) hs hl hc.1
      have hx := (v.ok (oth s) (f, x) (by rw [hl]; simp)).1
      simp only at hx
      obtain ⟨m1, m2⟩ := mtB_trd (b := b) (o := o) (s := s) (f := f) (r := r) hq (Int.le_of_lt hx)
      obtain ⟨g1, g2⟩ := cms_trd (o := o) hs n (mtB b o s q f x r).1 (es ++ (mtB b o s q f x r).2.1) (mtB b o s q f x r).2.2 v' q0 (by
        intro e he
        rcases List.mem_append.1 he with he | he
        · exact hp e he
        · exact m1 e he)
      refine ⟨g1, ?_⟩
      rw [trd_append] at g2
      omega
    · rw [cms_end hc]
      exact ⟨hp, Int.le_refl _⟩
end Go.Proofs.Ytfgcfiejkjhebaa
namespace Go.Proofs.Ytfgcfiejkjhebaa
open Go.RowKit Go.Deep Go.Shelf
set_option linter.unusedVariables false
set_option linter.unusedSimpArgs false
theorem Sm.refl (b : Bs) : Sm b b := ⟨⟨rfl, rfl, rfl, rfl⟩, rfl, rfl⟩
theorem Lk.refl (o : Or) : Lk o o := ⟨rfl, rfl, rfl, rfl⟩
theorem fnd_mem {id : Int} : ∀ {l : LO} {x : Nat × Or}, x ∈ l → x.2.id = id → 0 ≤ fnd id l
  | y :: l, x, h, e => by
    unfold fnd
    split
    · exact Int.le_refl _
    · rename_i hn
      rcases List.mem_cons.1 h with rfl | h
      · exact absurd e hn
      · have := fnd_mem h e
        split
        · omega
        · omega
theorem fo_none {b : Bs} {id : Int} (h : ∀ S, ∀ y ∈ b.sl S, y.2.id ≠ id) : (fo b id).2.2 = false := by
  have h1 : fnd id b.l1 = -1 := fnd_none (fun x hx => h 1 x hx)
  have h2 : fnd id b.l2 = -1 := fnd_none (fun x hx => h 2 x hx)
  unfold fo
  rw [dif_neg (by omega), dif_neg (by omega)]
theorem fo_some {b : Bs} {id : Int} {S : Int} {y : Nat × Or} (hS : S = 1 ∨ S = 2) (hy : y ∈ b.sl S) (e : y.2.id = id) : (fo b id).2.2 = true := by
  unfold fo
  by_cases h1 : 0 ≤ fnd id b.l1
  · rw [dif_pos h1]
  · rw [dif_neg h1]
    rcases hS with rfl | rfl
    · exact absurd (fnd_mem (l := b.l1) hy e) h1
    · rw [dif_pos (fnd_mem (l := b.l2) hy e)]
/-- what the law of the kinds looks at. -/
def Kd (b : Bs) (c : Cm) (b' : Bs) (es : List Ev) : Prop :=
  (∃ e, es = [e] ∧ e.kd = 2 ∧ e.cd ≠ 0 ∧ b' = b.told) ∨
  (∃ e r, es = e :: r ∧ e.kd ≠ 2 ∧ (c.kd = 1 → Pos es ∧ trd es ≤ c.qt ∧ c.qt < 4294967296 ∧ ((c.ty = 2 ∨ c.ty = 3) → (fo b' c.id).2.2 = false) ∧ (c.ty = 4 → (fo b' c.id).2.2 = false ∧ (trd es = 0 ∨ trd es = c.qt)) ∧ (c.ty = 5 → (fo b' c.id).2.2 = true ∧ trd es = 0)))
theorem took_head {b : Bs} {es : List Ev} {o : Or} {s q : Int} {b' : Bs} {es' : List Ev} (hs : s = 1 ∨ s = 2) (h : Took b es o s q b' es') : ∃ r, es' = es ++ (evA o s q).num (nx b.seq) :: r := by
  rcases h with ⟨_, _, _, rfl⟩ | ⟨_, n, hc⟩
  · exact ⟨[(evC o.id q 4).num (nx (nx b.seq))], by simp⟩
  · obtain ⟨add, h1, _, _⟩ := cms_same (o := o) hs (Lk.refl o) (mes b s q + 1) (b.hgh o.id).told (b.hgh o.id).told (es ++ [(evA o s q).num (nx b.seq)]) [] q (Sm.refl _)
    rcases hc with ⟨_, _, rfl⟩ | ⟨_, _, rfl, _⟩ | ⟨_, _, _, rfl⟩
    · exact ⟨add, by rw [h1]; simp⟩
    · exact ⟨add, by rw [h1]; simp⟩
    · exact ⟨add ++ [(evC o.id (cms o s (mes b s q + 1) ((b.hgh o.id).told, es ++ [(evA o s q).num (nx b.seq)], q)).2.2 3).num (nx (cms o s (mes b s q + 1) ((b.hgh o.id).told, es ++ [(evA o s q).num (nx b.seq)], q)).1.seq)], by rw [h1]; simp⟩
theorem took_kinds {b : Bs} {o : Or} {s q : Int} {b' : Bs} {es' : List Ev} (h : Took b [] o s q b' es') (g : Gb b) (hs : s = 1 ∨ s = 2) (q0 : 1 ≤ q) (q1 : q < 4294967296) (hi : b.high < o.id) (h5 : o.ty = 5 → mts b o s = false) :
    Pos es' ∧ trd es' ≤ q ∧ (rst o.ty = false → (fo b' o.id).2.2 = false) ∧ (o.ty = 4 → trd es' = 0 ∨ trd es' = q) ∧ (o.ty = 5 → (fo b' o.id).2.2 = true ∧ trd es' = 0) := by
  have hids : ∀ S, ∀ y ∈ b.sl S, y.2.id ≠ o.id := fun S y hy e => by have := g.ids S y hy; omega
  have pA : Pos [(evA o s q).num (nx b.seq)] := by
    intro e he
    simp only [List.mem_singleton] at he
    subst he
    intro h
    exact absurd (show (1 : Int) = 3 from h) (by decide)
  have tA : trd [(evA o s q).num (nx b.seq)] = 0 := by simp [trd, evA, Ev.num]
  have pC : ∀ i k r n, Pos [(evC i k r).num n] := fun i k r n => by
    intro e he
    simp only [List.mem_singleton] at he
    subst he
    intro h
    exact absurd (show (4 : Int) = 3 from h) (by decide)
  have tC : ∀ i k r n, trd [(evC i k r).num n] = 0 := fun i k r n => by simp [trd, evC, Ev.num]
  have pApp : ∀ {x y : List Ev}, Pos x → Pos y → Pos (x ++ y) := fun hx hy e he => by
    rcases List.mem_append.1 he with he | he
    · exact hx e he
    · exact hy e he
  rcases h with ⟨k4, ht, rfl, rfl⟩ | ⟨ht, n, hc⟩
  · have tt : trd ([] ++ [(evA o s q).num (nx b.seq)] ++ [(evC o.id q 4).num (nx (nx b.seq))]) = 0 := by rw [trd_append, tC, List.nil_append, tA]; rfl
    refine ⟨pApp (by simpa using pA) (pC _ _ _ _), by rw [tt]; omega, fun _ => fo_none hids, fun _ => .inl tt, fun k5 => by omega⟩
  · obtain ⟨k1, k2, k3, k4, k5⟩ := cms_good (o := o) hs (mes b s q + 1) (b.hgh o.id).told ([] ++ [(evA o s q).num (nx b.seq)]) q (g.vb.hgh _).told (by omega)
    obtain ⟨m1, m2⟩ := cms_trd (o := o) hs (mes b s q + 1) (b.hgh o.id).told ([] ++ [(evA o s q).num (nx b.seq)]) q (g.vb.hgh _).told (by omega) (by simpa using pA)
    rw [List.nil_append, tA] at m2
    simp only [List.nil_append] at k1 k2 k3 k4 k5 m1 hc
    have hsub : ∀ S, ∀ y ∈ (cms o s (mes b s q + 1) ((b.hgh o.id).told, [(evA o s q).num (nx b.seq)], q)).1.sl S, y.2.id ≠ o.id := fun S y hy e => by
      obtain ⟨z, hz, e'⟩ := k3.sub S y hy
      exact hids S z hz (e'.trans e)
    have hte : trd es' = trd (cms o s (mes b s q + 1) ((b.hgh o.id).told, [(evA o s q).num (nx b.seq)], q)).2.1 ∧ Pos es' := by
      rcases hc with ⟨_, _, rfl⟩ | ⟨_, _, rfl, _⟩ | ⟨_, _, _, rfl⟩
      · exact ⟨rfl, m1⟩
      · exact ⟨rfl, m1⟩
      · exact ⟨by rw [trd_append, tC]; omega, pApp m1 (pC _ _ _ _)⟩
    refine ⟨hte.2, by rw [hte.1]; omega, fun hr => ?_, fun k => .inr ?_, fun k => ?_⟩
    · rcases hc with ⟨_, rfl, _⟩ | ⟨_, x, _⟩ | ⟨_, _, rfl, _⟩
      · exact fo_none hsub
      · rw [hr] at x; cases x
      · exact fo_none hsub
    · obtain ⟨b2, n2, b3, es3, hsm, hcm, hf⟩ := ht k
      have hlk : Lk o o.ioc := ⟨rfl, rfl, rfl, by show ((3 : Int) == 2) = (o.ty == 2); rw [k]; rfl⟩
      have hme : mes (b.hgh o.id).told s q = mes b s q := rfl
      rw [hme] at hcm
      obtain ⟨add, a1, a2, a3⟩ := cms_same hs hlk (mes b s q + 1) (b.hgh o.id).told b2 [(evA o s q).num (nx b.seq)] [] q hsm
      have t1 : trd (cms o s (mes b s q + 1) ((b.hgh o.id).told, [(evA o s q).num (nx b.seq)], q)).2.1 = trd add := by rw [a1, trd_append, tA]; omega
      obtain ⟨n1, n3⟩ := cms_trd (o := o.ioc) hs (mes b s q + 1) b2 [] q (hsm.vb (g.vb.hgh _).told) (by omega) (by intro e he; cases he)
      obtain ⟨_, _, _, n4, _⟩ := cms_good (o := o.ioc) hs (mes b s q + 1) b2 [] q (hsm.vb (g.vb.hgh _).told) (by omega)
      have hte3 : trd es3 = trd add ∧ Pos es3 := by
        have e0 : trd (cms o.ioc s (mes b s q + 1) (b2, [], q)).2.1 = trd add := by rw [a2]; rfl
        rcases hcm with ⟨_, _, rfl⟩ | ⟨_, _, rfl, _⟩ | ⟨_, _, _, rfl⟩
        · exact ⟨e0, n1⟩
        · exact ⟨e0, n1⟩
        · exact ⟨by rw [trd_append, tC, e0]; omega, pApp n1 (pC _ _ _ _)⟩
      have hle : trd es3 ≤ q := by
        rw [hte3.1]
        have e0 : trd (cms o.ioc s (mes b s q + 1) (b2, [], q)).2.1 = trd add := by rw [a2]; rfl
        rw [e0] at n3
        have : trd ([] : List Ev) = 0 := rfl
        omega
      have hz := fld_trd hte3.2 hle q1
      have hf' : fld q es3 = 0 := by simpa using hf
      rw [hte.1, t1, ← hte3.1]
      omega
    · have hmt : mts (b.hgh o.id).told o s = false := h5 k
      rw [cms_end (by rintro ⟨_, x⟩; simp only at x; rw [hmt] at x; cases x)] at hc hte
      have hr : rst o.ty = true := by rw [k]; rfl
      rcases hc with ⟨x, _, _⟩ | ⟨_, _, rfl, p', c', blk, _, rfl⟩ | ⟨_, x, _, _⟩
      · simp only at x; omega
      · refine ⟨fo_some hs (y := (blk, { o with vi := (shw o.pk q).1, hi := (shw o.pk q).2 })) ?_ rfl, by rw [hte.1]; exact tA⟩
        rw [put_sl' _ _ _ _ _ _ hs, if_pos Iff.rfl]
        exact ins_perm.mem_iff.2 (by simp)
      · rw [hr] at x; cases x
theorem did_kinds {b : Bs} {c : Cm} {b' : Bs} {es : List Ev} (h : Did b c b' es) (g : Gb b) : Kd b c b' es := by
  rcases h with ⟨n, rfl, rfl⟩ | ⟨_, k, o, s, kk, i, hf, rfl, rfl⟩ | ⟨h0, k1, ht⟩ | ⟨h0, k3, o, s, kk, i, hf, ht⟩
  · exact .inl ⟨_, rfl, rfl, n, rfl⟩
  · exact .inr ⟨_, [], rfl, by show (4 : Int) ≠ 2; decide, fun k1 => by omega⟩
  · have e : cmN b c = c := by unfold cmN; rw [if_neg (by omega)]
    rw [e] at ht
    obtain ⟨n1, _⟩ := rfs_new h0 (by omega)
    rcases rfs_zero h0 with ⟨k, _⟩ | ⟨_, hs, q1, q2⟩ | ⟨k, _⟩
    · omega
    · obtain ⟨r, hr⟩ := took_head hs ht
      have h5 : (ord c).ty = 5 → mts b (ord c) c.sd = false := fun k5 => by
        cases hm : mts b (ord c) c.sd with
        | false => rfl
        | true =>
          exfalso
          have k5' : c.ty = 5 := k5
          unfold rfs at h0
          rw [e] at h0
          split at h0
          · cases h0
          · split at h0
            · cases h0
            · split at h0
              · rename_i x; rcases x with x | x
                · exact x h0
                · omega
              · split at h0
                · cases h0
                · split at h0
                  · cases h0
                  · split at h0
                    · cases h0
                    · rename_i x; exact x ⟨k5', hm⟩
      obtain ⟨m1, m2, m3, m4, m5⟩ := took_kinds ht g hs q1 (by omega) n1 h5
      refine .inr ⟨_, r, hr, by show (1 : Int) ≠ 2; decide, fun _ => ⟨m1, m2, by omega, fun k => m3 ?_, fun k => ⟨m3 ?_, m4 k⟩, fun k => m5 k⟩⟩
      · show rst c.ty = false
        rcases k with k | k <;> rw [k] <;> rfl
      · show rst c.ty = false
        rw [k]; rfl
    · omega
  · have hsd : (cmN b c).sd = s := by unfold cmN; rw [if_pos k3, hf.ff]
    obtain ⟨r, hr⟩ := took_head (by rw [hsd]; exact hf.side) ht
    exact .inr ⟨_, _, hr, by show (4 : Int) ≠ 2; decide, fun k1 => by omega⟩
end Go.Proofs.Ytfgcfiejkjhebaa
