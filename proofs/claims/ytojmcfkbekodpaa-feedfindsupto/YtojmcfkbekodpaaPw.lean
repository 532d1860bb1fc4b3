/-
  What trades: alike at books that are the same.
-/
import Derived.Test.YtojmcfkbekodpaaPh
import Derived.Test.YtojmcfkbekodpaaRi
import Derived.Test.YtojmcfkbekodpaaPv
namespace Go.Proofs.Ytojmcfkbekodpaa
open Go.RowKit Go.Deep Go.Shelf
set_option linter.unusedVariables false
set_option linter.unusedSimpArgs false
theorem bhd_map {s p : Int} {l l2 : LO} (h : l2.map (·.2) = l.map (·.2)) : bhd s p l2 = bhd s p l := by
  have e : ∀ l : LO, bhd s p l = ((l.map (·.2)).takeWhile fun y => !btt s p y.pr).length := fun l => by
    unfold bhd
    rw [List.takeWhile_map, List.length_map]
    rfl
  rw [e, e, h]
theorem ins_map {i : Nat} {x x2 : Nat × Or} {l l2 : LO} (hx : x2.2 = x.2) (h : l2.map (·.2) = l.map (·.2)) : (ins i x2 l2).map (·.2) = (ins i x l).map (·.2) := by
  unfold ins
  simp only [List.map_append, List.map_cons, List.map_take, List.map_drop, h, hx]
theorem agn_map {s : Int} {x x2 : Nat × Or} {r r2 : LO} (hx : x2.2 = x.2) (h : r2.map (·.2) = r.map (·.2)) : (agn s (x2 :: r2)).map (·.2) = (agn s (x :: r)).map (·.2) := by
  show (ins (bhd s x2.2.pr (x2 :: r2) - 1) x2 r2).map (·.2) = (ins (bhd s x.2.pr (x :: r) - 1) x r).map (·.2)
  have : bhd s x2.2.pr (x2 :: r2) = bhd s x.2.pr (x :: r) := by
    rw [hx]
    exact bhd_map (by simp [hx, h])
  rw [this]
  exact ins_map hx h
theorem trl_map {S : Int} {f f2 : Nat} {x : Or} {r r2 : LO} {q : Int} (h : r2.map (·.2) = r.map (·.2)) : (trl S f2 x r2 q).map (·.2) = (trl S f x r q).map (·.2) := by
  unfold trl
  split
  · simp [h]
  · split
    · exact h
    · exact agn_map rfl h
theorem Sm.told {b b2 : Bs} (h : Sm b b2) : Sm b.told b2.told := ⟨⟨h.num.1, h.num.2.1, h.num.2.2.1, by show nx _ = nx _; rw [h.num.2.2.2]⟩, h.o1, h.o2⟩
theorem Sm.put {b b2 : Bs} (h : Sm b b2) {s : Int} (hs : s = 1 ∨ s = 2) {p p2 : Option Addr} {c c2 : Nat} {l l2 : LO} (hl : l2.map (·.2) = l.map (·.2)) : Sm (b.put s p c l) (b2.put s p2 c2 l2) := by
  rcases hs with rfl | rfl
  · exact ⟨h.num, hl, h.o2⟩
  · exact ⟨h.num, h.o1, hl⟩
/-- two orders that meet alike. -/
structure Lk (o o2 : Or) : Prop where
  id : o2.id = o.id
  mb : o2.mb = o.mb
  pr : o2.pr = o.pr
  ty : (o2.ty == 2) = (o.ty == 2)
theorem mtB_same {b b2 : Bs} {o o2 : Or} {s q : Int} {f f2 : Nat} {x : Or} {r r2 : LO} (hs : s = 1 ∨ s = 2) (h : Sm b b2) (k : Lk o o2) (hl : b.sl (oth s) = (f, x) :: r) (hl2 : b2.sl (oth s) = (f2, x) :: r2) (hr : r2.map (·.2) = r.map (·.2)) :
    (mtB b2 o2 s q f2 x r2).2 = (mtB b o s q f x r).2 ∧ Sm (mtB b o s q f x r).1 (mtB b2 o2 s q f2 x r2).1 := by
  have hS := oth_side hs
  have hp : prt b2 o2 x = prt b o x := by unfold prt; rw [h.num.2.1, k.mb]
  have hsq := h.num.2.2.2
  have hm := h.num.2.1
  have hev : ∀ q', evT o2 s x q' = evT o s x q' := fun q' => by unfold evT; rw [k.id]
  unfold mtB
  rw [hp, hm, hsq, k.id]
  split
  · refine ⟨by simp only [tre, hev], ?_⟩
    have ht : Sm (trb b x (min q x.vi)) (trb b2 x (min q x.vi)) := by
      unfold trb
      split
      · exact h.told
      · split
        · exact h.told
        · exact h.told.told
    exact ht.put hS (trl_map hr)
  · have hd : Sm (b.del (oth s) 0) (b2.del (oth s) 0) := h.put hS (by rw [hl, hl2]; exact hr)
    split
    · exact ⟨rfl, h.told⟩
    · split
      · exact ⟨rfl, hd.told⟩
      · exact ⟨rfl, hd.told.told⟩
theorem mts_same {b b2 : Bs} {o o2 : Or} {s : Int} (h : Sm b b2) (k : Lk o o2) : mts b2 o2 s = mts b o s := by
  unfold mts
  have e := h.sl (oth s)
  cases hl : b.sl (oth s) with
  | nil => rw [hl] at e; simp only [List.map_nil, List.map_eq_nil_iff] at e; rw [e]; rfl
  | cons y r =>
    rw [hl] at e
    cases hl2 : b2.sl (oth s) with
    | nil => rw [hl2] at e; simp at e
    | cons y2 r2 =>
      rw [hl2] at e
      simp only [List.map_cons, List.cons.injEq] at e
      show rch o2 s y2.2.pr = rch o s y.2.pr
      unfold rch
      rw [e.1, k.ty, k.pr]
theorem cms_same {o o2 : Or} {s : Int} (hs : s = 1 ∨ s = 2) (k : Lk o o2) : ∀ (n : Nat) (b b2 : Bs) (es es2 : List Ev) (q : Int), Sm b b2 → ∃ add, (cms o s n (b, es, q)).2.1 = es ++ add ∧ (cms o2 s n (b2, es2, q)).2.1 = es2 ++ add ∧ (cms o2 s n (b2, es2, q)).2.2 = (cms o s n (b, es, q)).2.2
  | 0, b, b2, es, es2, q, h => ⟨[], by simp [cms], by simp [cms], rfl⟩
  | n + 1, b, b2, es, es2, q, h => by
    by_cases hc : 0 < q ∧ mts b o s = true
    · have hc2 : 0 < q ∧ mts b2 o2 s = true := ⟨hc.1, by rw [mts_same h k]; exact hc.2⟩
      obtain ⟨f, x, r, hl⟩ := mts_cons hc.2
      obtain ⟨f2, x2, r2, hl2⟩ := mts_cons hc2.2
      have e := h.sl (oth s)
      rw [hl, hl2] at e
      simp only [List.map_cons, List.cons.injEq] at e
      obtain ⟨rfl, hr⟩ := e
      rw [cms_step hc hl, cms_step hc2 hl2]
      obtain ⟨e1, e2⟩ := mtB_same (q := q) hs h k hl hl2 hr
      rw [e1]
      obtain ⟨add, g1, g2, g3⟩ := cms_same hs k n _ _ (es ++ (mtB b o s q f x2 r).2.1) (es2 ++ (mtB b o s q f x2 r).2.1) (mtB b o s q f x2 r).2.2 e2
      exact ⟨(mtB b o s q f x2 r).2.1 ++ add, by rw [g1, List.append_assoc], by rw [g2, List.append_assoc], g3⟩
    · have hc2 : ¬ (0 < q ∧ mts b2 o2 s = true) := by rw [mts_same h k]; exact hc
      rw [cms_end hc, cms_end hc2]
      exact ⟨[], by simp, by simp, rfl⟩
/-- what trades in what is told. -/
def trd : List Ev → Int
  | [] => 0
  | e :: es => (if e.kd = 3 then e.qt else 0) + trd es
theorem trd_append (a b : List Ev) : trd (a ++ b) = trd a + trd b := by
  induction a with
  | nil => simp [trd]
  | cons e es ih => simp only [List.cons_append, trd, ih]; omega
/-- each trade is of something. -/
def Pos (es : List Ev) : Prop := ∀ e ∈ es, e.kd = 3 → 0 ≤ e.qt
theorem trd_pos {es : List Ev} (h : Pos es) : 0 ≤ trd es := by
  induction es with
  | nil => exact Int.le_refl _
  | cons e es ih =>
    have h1 := ih (fun x hx => h x (List.mem_cons_of_mem _ hx))
    have h2 := h e (by simp)
    unfold trd
    split
    · have := h2 ‹_›; omega
    · omega
theorem fld_trd {es : List Ev} {q : Int} (h : Pos es) (h1 : trd es ≤ q) (h2 : q < 4294967296) : fld q es = q - trd es := by
  induction es generalizing q with
  | nil => simp [fld, trd]
  | cons e es ih =>
    have hp : Pos es := fun x hx => h x (List.mem_cons_of_mem _ hx)
    have h3 := trd_pos hp
    have h4 := h e (by simp)
    unfold fld
    unfold trd at h1 ⊢
    by_cases k : e.kd = 3
    · have := h4 k
      rw [if_pos k] at h1 ⊢
      rw [if_pos k]
      rw [show IntKind.u64.wrap (q - e.qt) = q - e.qt by rw [IntKind.wrap_u64]; omega]
      rw [ih hp (by omega) (by omega)]
      omega
    · rw [if_neg k] at h1 ⊢
      rw [if_neg k, ih hp (by omega) h2]
      omega
theorem mtB_trd {b : Bs} {o : Or} {s q : Int} {f : Nat} {x : Or} {r : LO} (hq : 0 ≤ q) (hx : 0 ≤ x.vi) : Pos (mtB b o s q f x r).2.1 ∧ trd (mtB b o s q f x r).2.1 + (mtB b o s q f x r).2.2 ≤ q := by
  unfold mtB
  split
  · simp only [tre]
    split
    · exact ⟨by intro e he; simp only [List.mem_singleton] at he; subst he; intro _; show 0 ≤ min q x.vi; omega, by simp [trd, evT, Ev.num]; omega⟩
    · split
      · exact ⟨by intro e he; simp only [List.mem_singleton] at he; subst he; intro _; show 0 ≤ min q x.vi; omega, by simp [trd, evT, Ev.num]; omega⟩
      · refine ⟨?_, by simp [trd, evT, evF, Ev.num]; omega⟩
        intro e he
        simp only [List.mem_cons, List.not_mem_nil, or_false] at he
        rcases he with rfl | rfl
        · intro _; show 0 ≤ min q x.vi; omega
        · intro h; cases h
  · split
    · exact ⟨by intro e he; simp only [List.mem_singleton] at he; subst he; intro h; exact absurd (show (4 : Int) = 3 from h) (by decide), by simp [trd, evC, Ev.num]; omega⟩
    · split
      · exact ⟨by intro e he; simp only [List.mem_singleton] at he; subst he; intro h; exact absurd (show (4 : Int) = 3 from h) (by decide), by simp [trd, evC, Ev.num]⟩
      · refine ⟨?_, by simp [trd, evC, Ev.num]; omega⟩
        intro e he
        simp only [List.mem_cons, List.not_mem_nil, or_false] at he
        rcases he with rfl | rfl <;> (intro h; cases h)
theorem cms_trd {o : Or} {s : Int} (hs : s = 1 ∨ s = 2) : ∀ (n : Nat) (b : Bs) (es : List Ev) (q : Int), Vb b → 0 ≤ q → Pos es → Pos (cms o s n (b, es, q)).2.1 ∧ trd (cms o s n (b, es, q)).2.1 + (cms o s n (b, es, q)).2.2 ≤ trd es + q
  | 0, b, es, q, v, hq, hp => ⟨hp, Int.le_refl _⟩
  | n + 1, b, es, q, v, hq, hp => by
    by_cases hc : 0 < q ∧ mts b o s = true
    · obtain ⟨f, x, r, hl⟩ := mts_cons hc.2
      rw [cms_step hc hl]
      obtain ⟨v', _, _, q0, q1⟩ := v.met (o := o) hs hl hc.1
      have hx := (v.ok (oth s) (f, x) (by rw [hl]; simp)).1
      simp only at hx
      obtain ⟨m1, m2⟩ := mtB_trd (b := b) (o := o) (s := s) (f := f) (r := r) hq (Int.le_of_lt hx)
      obtain ⟨g1, g2⟩ := cms_trd (o := o) hs n (mtB b o s q f x r).1 (es ++ (mtB b o s q f x r).2.1) (mtB b o s q f x r).2.2 v' q0 (by
        intro e he
        rcases List.mem_append.1 he with he | he
        · exact hp e he
        · exact m1 e he)
      refine ⟨g1, ?_⟩
      rw [trd_append] at g2
      omega
    · rw [cms_end hc]
      exact ⟨hp, Int.le_refl _⟩
end Go.Proofs.Ytojmcfkbekodpaa
namespace Go.Proofs.Ytojmcfkbekodpaa
open Go.RowKit Go.Deep Go.Shelf
set_option linter.unusedVariables false
set_option linter.unusedSimpArgs false
theorem Sm.refl (b : Bs) : Sm b b := ⟨⟨rfl, rfl, rfl, rfl⟩, rfl, rfl⟩
theorem Lk.refl (o : Or) : Lk o o := ⟨rfl, rfl, rfl, rfl⟩
theorem fnd_mem {id : Int} : ∀ {l : LO} {x : Nat × Or}, x ∈ l → x.2.id = id → 0 ≤ fnd id l
  | y :: l, x, h, e => by
    unfold fnd
    split
    · exact Int.le_refl _
    · rename_i hn
      rcases List.mem_cons.1 h with rfl | h
      · exact absurd e hn
      · have := fnd_mem h e
        split
        · omega
        · omega
theorem fo_none {b : Bs} {id : Int} (h : ∀ S, ∀ y ∈ b.sl S, y.2.id ≠ id) : (fo b id).2.2 = false := by
  have h1 : fnd id b.l1 = -1 := fnd_none (fun x hx => h 1 x hx)
  have h2 : fnd id b.l2 = -1 := fnd_none (fun x hx => h 2 x hx)
  unfold fo
  rw [dif_neg (by omega), dif_neg (by omega)]
theorem fo_some {b : Bs} {id : Int} {S : Int} {y : Nat × Or} (hS : S = 1 ∨ S = 2) (hy : y ∈ b.sl S) (e : y.2.id = id) : (fo b id).2.2 = true := by
  unfold fo
  by_cases h1 : 0 ≤ fnd id b.l1
  · rw [dif_pos h1]
  · rw [dif_neg h1]
    rcases hS with rfl | rfl
    · exact absurd (fnd_mem (l := b.l1) hy e) h1
    · rw [dif_pos (fnd_mem (l := b.l2) hy e)]
/-- what the law of the kinds looks at. -/
def Kd (b : Bs) (c : Cm) (b' : Bs) (es : List Ev) : Prop :=
  (∃ e, es = [e] ∧ e.kd = 2 ∧ e.cd ≠ 0 ∧ b' = b.told) ∨
  (∃ e r, es = e :: r ∧ e.kd ≠ 2 ∧ (c.kd = 1 → Pos es ∧ trd es ≤ c.qt ∧ c.qt < 4294967296 ∧ ((c.ty = 2 ∨ c.ty = 3) → (fo b' c.id).2.2 = false) ∧ (c.ty = 4 → (fo b' c.id).2.2 = false ∧ (trd es = 0 ∨ trd es = c.qt)) ∧ (c.ty = 5 → (fo b' c.id).2.2 = true ∧ trd es = 0)))
theorem took_head {b : Bs} {es : List Ev} {o : Or} {s q : Int} {b' : Bs} {es' : List Ev} (hs : s = 1 ∨ s = 2) (h : Took b es o s q b' es') : ∃ r, es' = es ++ (evA o s q).num (nx b.seq) :: r := by
  rcases h with ⟨_, _, _, rfl⟩ | ⟨_, n, hc⟩
  · exact ⟨[(evC o.id q 4).num (nx (nx b.seq))], by simp⟩
  · obtain ⟨add, h1, _, _⟩ := cms_same (o := o) hs (Lk.refl o) (mes b s q + 1) (b.hgh o.id).told (b.hgh o.id).told (es ++ [(evA o s q).num (nx b.seq)]) [] q (Sm.refl _)
    rcases hc with ⟨_, _, rfl⟩ | ⟨_, _, rfl, _⟩ | ⟨_, _, _, rfl⟩
    · exact ⟨add, by rw [h1]; simp⟩
    · exact ⟨add, by rw [h1]; simp⟩
    · exact ⟨add ++ [(evC o.id (cms o s (mes b s q + 1) ((b.hgh o.id).told, es ++ [(evA o s q).num (nx b.seq)], q)).2.2 3).num (nx (cms o s (mes b s q + 1) ((b.hgh o.id).told, es ++ [(evA o s q).num (nx b.seq)], q)).1.seq)], by rw [h1]; simp⟩
theorem took_kinds {b : Bs} {o : Or} {s q : Int} {b' : Bs} {es' : List Ev} (h : Took b [] o s q b' es') (g : Gb b) (hs : s = 1 ∨ s = 2) (q0 : 1 ≤ q) (q1 : q < 4294967296) (hi : b.high < o.id) (h5 : o.ty = 5 → mts b o s = false) :
    Pos es' ∧ trd es' ≤ q ∧ (rst o.ty = false → (fo b' o.id).2.2 = false) ∧ (o.ty = 4 → trd es' = 0 ∨ trd es' = q) ∧ (o.ty = 5 → (fo b' o.id).2.2 = true ∧ trd es' = 0) := by
  have hids : ∀ S, ∀ y ∈ b.sl S, y.2.id ≠ o.id := fun S y hy e => by have := g.ids S y hy; omega
  have pA : Pos [(evA o s q).num (nx b.seq)] := by
    intro e he
    simp only [List.mem_singleton] at he
    subst he
    intro h
    exact absurd (show (1 : Int) = 3 from h) (by decide)
  have tA : trd [(evA o s q).num (nx b.seq)] = 0 := by simp [trd, evA, Ev.num]
  have pC : ∀ i k r n, Pos [(evC i k r).num n] := fun i k r n => by
    intro e he
    simp only [List.mem_singleton] at he
    subst he
    intro h
    exact absurd (show (4 : Int) = 3 from h) (by decide)
  have tC : ∀ i k r n, trd [(evC i k r).num n] = 0 := fun i k r n => by simp [trd, evC, Ev.num]
  have pApp : ∀ {x y : List Ev}, Pos x → Pos y → Pos (x ++ y) := fun hx hy e he => by
    rcases List.mem_append.1 he with he | he
    · exact hx e he
    · exact hy e he
  rcases h with ⟨k4, ht, rfl, rfl⟩ | ⟨ht, n, hc⟩
  · have tt : trd ([] ++ [(evA o s q).num (nx b.seq)] ++ [(evC o.id q 4).num (nx (nx b.seq))]) = 0 := by rw [trd_append, tC, List.nil_append, tA]; rfl
    refine ⟨pApp (by simpa using pA) (pC _ _ _ _), by rw [tt]; omega, fun _ => fo_none hids, fun _ => .inl tt, fun k5 => by omega⟩
  · obtain ⟨k1, k2, k3, k4, k5⟩ := cms_good (o := o) hs (mes b s q + 1) (b.hgh o.id).told ([] ++ [(evA o s q).num (nx b.seq)]) q (g.vb.hgh _).told (by omega)
    obtain ⟨m1, m2⟩ := cms_trd (o := o) hs (mes b s q + 1) (b.hgh o.id).told ([] ++ [(evA o s q).num (nx b.seq)]) q (g.vb.hgh _).told (by omega) (by simpa using pA)
    rw [List.nil_append, tA] at m2
    simp only [List.nil_append] at k1 k2 k3 k4 k5 m1 hc
    have hsub : ∀ S, ∀ y ∈ (cms o s (mes b s q + 1) ((b.hgh o.id).told, [(evA o s q).num (nx b.seq)], q)).1.sl S, y.2.id ≠ o.id := fun S y hy e => by
      obtain ⟨z, hz, e'⟩ := k3.sub S y hy
      exact hids S z hz (e'.trans e)
    have hte : trd es' = trd (cms o s (mes b s q + 1) ((b.hgh o.id).told, [(evA o s q).num (nx b.seq)], q)).2.1 ∧ Pos es' := by
      rcases hc with ⟨_, _, rfl⟩ | ⟨_, _, rfl, _⟩ | ⟨_, _, _, rfl⟩
      · exact ⟨rfl, m1⟩
      · exact ⟨rfl, m1⟩
      · exact ⟨by rw [trd_append, tC]; omega, pApp m1 (pC _ _ _ _)⟩
    refine ⟨hte.2, by rw [hte.1]; omega, fun hr => ?_, fun k => .inr ?_, fun k => ?_⟩
    · rcases hc with ⟨_, rfl, _⟩ | ⟨_, x, _⟩ | ⟨_, _, rfl, _⟩
      · exact fo_none hsub
      · rw [hr] at x; cases x
      · exact fo_none hsub
    · obtain ⟨b2, n2, b3, es3, hsm, hcm, hf⟩ := ht k
      have hlk : Lk o o.ioc := ⟨rfl, rfl, rfl, by show ((3 : Int) == 2) = (o.ty == 2); rw [k]; rfl⟩
      have hme : mes (b.hgh o.id).told s q = mes b s q := rfl
      rw [hme] at hcm
      obtain ⟨add, a1, a2, a3⟩ := cms_same hs hlk (mes b s q + 1) (b.hgh o.id).told b2 [(evA o s q).num (nx b.seq)] [] q hsm
      have t1 : trd (cms o s (mes b s q + 1) ((b.hgh o.id).told, [(evA o s q).num (nx b.seq)], q)).2.1 = trd add := by rw [a1, trd_append, tA]; omega
      obtain ⟨n1, n3⟩ := cms_trd (o := o.ioc) hs (mes b s q + 1) b2 [] q (hsm.vb (g.vb.hgh _).told) (by omega) (by intro e he; cases he)
      obtain ⟨_, _, _, n4, _⟩ := cms_good (o := o.ioc) hs (mes b s q + 1) b2 [] q (hsm.vb (g.vb.hgh _).told) (by omega)
      have hte3 : trd es3 = trd add ∧ Pos es3 := by
        have e0 : trd (cms o.ioc s (mes b s q + 1) (b2, [], q)).2.1 = trd add := by rw [a2]; rfl
        rcases hcm with ⟨_, _, rfl⟩ | ⟨_, _, rfl, _⟩ | ⟨_, _, _, rfl⟩
        · exact ⟨e0, n1⟩
        · exact ⟨e0, n1⟩
        · exact ⟨by rw [trd_append, tC, e0]; omega, pApp n1 (pC _ _ _ _)⟩
      have hle : trd es3 ≤ q := by
        rw [hte3.1]
        have e0 : trd (cms o.ioc s (mes b s q + 1) (b2, [], q)).2.1 = trd add := by rw [a2]; rfl
        rw [e0] at n3
        have : trd ([] : List Ev) = 0 := rfl
        omega
      have hz := fld_trd hte3.2 hle q1
      have hf' : fld q es3 = 0 := by simpa using hf
      rw [hte.1, t1, ← hte3.1]
      omega
    · have hmt : mts (b.hgh o.id).told o s = false := h5 k
      rw [cms_end (by rintro ⟨_, x⟩; simp only at x; rw [hmt] at x; cases x)] at hc hte
      have hr : rst o.ty = true := by rw [k]; rfl
      rcases hc with ⟨x, _, _⟩ | ⟨_, _, rfl, p', c', blk, _, rfl⟩ | ⟨_, x, _, _⟩
      · simp only at x; omega
      · refine ⟨fo_some hs (y := (blk, { o with vi := (shw o.pk q).1, hi := (shw o.pk q).2 })) ?_ rfl, by rw [hte.1]; exact tA⟩
        rw [put_sl' _ _ _ _ _ _ hs, if_pos Iff.rfl]
        exact ins_perm.mem_iff.2 (by simp)
      · rw [hr] at x; cases x
theorem did_kinds {b : Bs} {c : Cm} {b' : Bs} {es : List Ev} (h : Did b c b' es) (g : Gb b) : Kd b c b' es := by
  rcases h with ⟨n, rfl, rfl⟩ | ⟨_, k, o, s, kk, i, hf, rfl, rfl⟩ | ⟨h0, k1, ht⟩ | ⟨h0, k3, o, s, kk, i, hf, ht⟩
  · exact .inl ⟨_, rfl, rfl, n, rfl⟩
  · exact .inr ⟨_, [], rfl, by show (4 : Int) ≠ 2; decide, fun k1 => by omega⟩
  · have e : cmN b c = c := by unfold cmN; rw [if_neg (by omega)]
    rw [e] at ht
    obtain ⟨n1, _⟩ := rfs_new h0 (by omega)
    rcases rfs_zero h0 with ⟨k, _⟩ | ⟨_, hs, q1, q2⟩ | ⟨k, _⟩
    · omega
    · obtain ⟨r, hr⟩ := took_head hs ht
      have h5 : (ord c).ty = 5 → mts b (ord c) c.sd = false := fun k5 => by
        cases hm : mts b (ord c) c.sd with
        | false => rfl
        | true =>
          exfalso
          have k5' : c.ty = 5 := k5
          unfold rfs at h0
          rw [e] at h0
          split at h0
          · cases h0
          · split at h0
            · cases h0
            · split at h0
              · rename_i x; rcases x with x | x
                · exact x h0
                · omega
              · split at h0
                · cases h0
                · split at h0
                  · cases h0
                  · split at h0
                    · cases h0
                    · rename_i x; exact x ⟨k5', hm⟩
      obtain ⟨m1, m2, m3, m4, m5⟩ := took_kinds ht g hs q1 (by omega) n1 h5
      refine .inr ⟨_, r, hr, by show (1 : Int) ≠ 2; decide, fun _ => ⟨m1, m2, by omega, fun k => m3 ?_, fun k => ⟨m3 ?_, m4 k⟩, fun k => m5 k⟩⟩
      · show rst c.ty = false
        rcases k with k | k <;> rw [k] <;> rfl
      · show rst c.ty = false
        rw [k]; rfl
    · omega
  · have hsd : (cmN b c).sd = s := by unfold cmN; rw [if_pos k3, hf.ff]
    obtain ⟨r, hr⟩ := took_head (by rw [hsd]; exact hf.side) ht
    exact .inr ⟨_, _, hr, by show (4 : Int) ≠ 2; decide, fun k1 => by omega⟩
end Go.Proofs.Ytojmcfkbekodpaa
namespace Go.Proofs.Ytojmcfkbekodpaa
open Go.RowKit Go.Deep Go.Shelf
set_option linter.unusedVariables false
set_option linter.unusedSimpArgs false
theorem Sm.symm {b b2 : Bs} (h : Sm b b2) : Sm b2 b := ⟨⟨h.num.1.symm, h.num.2.1.symm, h.num.2.2.1.symm, h.num.2.2.2.symm⟩, h.o1.symm, h.o2.symm⟩
theorem Sm.trans {a b c : Bs} (h : Sm a b) (k : Sm b c) : Sm a c := ⟨⟨k.num.1.trans h.num.1, k.num.2.1.trans h.num.2.1, k.num.2.2.1.trans h.num.2.2.1, k.num.2.2.2.trans h.num.2.2.2⟩, k.o1.trans h.o1, k.o2.trans h.o2⟩
theorem Sm.hgh {b b2 : Bs} (h : Sm b b2) (i : Int) : Sm (b.hgh i) (b2.hgh i) := ⟨⟨h.num.1, h.num.2.1, rfl, h.num.2.2.2⟩, h.o1, h.o2⟩
theorem fnd_map {id : Int} : ∀ {l l2 : LO}, l2.map (·.2) = l.map (·.2) → fnd id l2 = fnd id l
  | [], [], _ => rfl
  | [], y :: r, h => by simp at h
  | x :: r, [], h => by simp at h
  | x :: r, y :: r2, h => by
    simp only [List.map_cons, List.cons.injEq] at h
    unfold fnd
    rw [h.1, fnd_map h.2]
theorem get_map {l l2 : LO} (h : l2.map (·.2) = l.map (·.2)) {i : Nat} (hi : i < l.length) (hi2 : i < l2.length) : (l2[i]).2 = (l[i]).2 := by
  have : (l2.map (·.2))[i]? = (l.map (·.2))[i]? := by rw [h]
  simpa [List.getElem?_map, List.getElem?_eq_getElem hi, List.getElem?_eq_getElem hi2] using this
theorem fo_same {b b2 : Bs} (h : Sm b b2) (id : Int) : fo b2 id = fo b id := by
  have e1 := fnd_map (id := id) h.o1
  have e2 := fnd_map (id := id) h.o2
  have g1 := fnd_ge id b.l1
  have g2 := fnd_ge id b.l2
  have g3 := fnd_ge id b2.l1
  have g4 := fnd_ge id b2.l2
  unfold fo
  by_cases h1 : 0 ≤ fnd id b.l1
  · rw [dif_pos h1, dif_pos (by rw [e1]; exact h1)]
    simp only [Prod.mk.injEq, and_self, and_true]
    simp only [e1]
    exact get_map h.o1 (by omega) (by omega)
  · rw [dif_neg h1, dif_neg (by rw [e1]; exact h1)]
    by_cases h2 : 0 ≤ fnd id b.l2
    · rw [dif_pos h2, dif_pos (by rw [e2]; exact h2)]
      simp only [Prod.mk.injEq, and_self, and_true]
      simp only [e2]
      exact get_map h.o2 (by omega) (by omega)
    · rw [dif_neg h2, dif_neg (by rw [e2]; exact h2)]
theorem cmN_same {b b2 : Bs} (h : Sm b b2) (c : Cm) : cmN b2 c = cmN b c := by unfold cmN; rw [fo_same h]
theorem rfs_same {b b2 : Bs} (h : Sm b b2) (c : Cm) : rfs b2 c = rfs b c := by
  have n1 : b2.l1.length = b.l1.length := by have := congrArg List.length h.o1; simpa using this
  have n2 : b2.l2.length = b.l2.length := by have := congrArg List.length h.o2; simpa using this
  unfold rfs
  rw [fo_same h, cmN_same h, h.num.1, h.num.2.2.1, n1, n2, mts_same h (Lk.refl _)]
theorem mes_same {b b2 : Bs} (h : Sm b b2) (s q : Int) : mes b2 s q = mes b s q := by unfold mes; rw [h.len]
theorem cms_same2 {o o2 : Or} {s : Int} (hs : s = 1 ∨ s = 2) (k : Lk o o2) : ∀ (n : Nat) (b b2 : Bs) (es : List Ev) (q : Int), Sm b b2 → (cms o2 s n (b2, es, q)).2 = (cms o s n (b, es, q)).2 ∧ Sm (cms o s n (b, es, q)).1 (cms o2 s n (b2, es, q)).1
  | 0, b, b2, es, q, h => ⟨rfl, h⟩
  | n + 1, b, b2, es, q, h => by
    by_cases hc : 0 < q ∧ mts b o s = true
    · have hc2 : 0 < q ∧ mts b2 o2 s = true := ⟨hc.1, by rw [mts_same h k]; exact hc.2⟩
      obtain ⟨f, x, r, hl⟩ := mts_cons hc.2
      obtain ⟨f2, x2, r2, hl2⟩ := mts_cons hc2.2
      have e := h.sl (oth s)
      rw [hl, hl2] at e
      simp only [List.map_cons, List.cons.injEq] at e
      obtain ⟨rfl, hr⟩ := e
      rw [cms_step hc hl, cms_step hc2 hl2]
      obtain ⟨e1, e2⟩ := mtB_same (q := q) hs h k hl hl2 hr
      rw [e1]
      exact cms_same2 hs k n _ _ _ _ e2
    · have hc2 : ¬ (0 < q ∧ mts b2 o2 s = true) := by rw [mts_same h k]; exact hc
      rw [cms_end (c := (b, es, q)) hc, cms_end (c := (b2, es, q)) hc2]
      exact ⟨rfl, h⟩
theorem came_same {o : Or} {s : Int} {c c2 : Bs × List Ev × Int} {n n2 : Nat} {b' b2' : Bs} {es' es2' : List Ev} (hs : s = 1 ∨ s = 2) (e : c2.2 = c.2) (h : Sm c.1 c2.1) (h1 : Came o s c n b' es') (h2 : Came o s c2 n2 b2' es2') : es2' = es' ∧ Sm b' b2' := by
  obtain ⟨b, es, q⟩ := c
  obtain ⟨b2, es2, q2⟩ := c2
  obtain ⟨rfl, rfl⟩ : es2 = es ∧ q2 = q := by simpa using e
  rcases h1 with ⟨a, rfl, rfl⟩ | ⟨a, r, rfl, p', c', blk, _, rfl⟩ | ⟨a, r, rfl, rfl⟩
  · rcases h2 with ⟨_, rfl, rfl⟩ | ⟨a', _⟩ | ⟨a', _⟩
    · exact ⟨rfl, h⟩
    · simp only at a a'; omega
    · simp only at a a'; omega
  · rcases h2 with ⟨a', _⟩ | ⟨_, _, rfl, p2, c2, blk2, _, rfl⟩ | ⟨_, r', _⟩
    · simp only at a a'; omega
    · refine ⟨rfl, h.put hs ?_⟩
      rw [bhd_map (h.sl s)]
      exact ins_map rfl (h.sl s)
    · rw [r] at r'; cases r'
  · rcases h2 with ⟨a', _⟩ | ⟨_, r', _⟩ | ⟨_, _, rfl, rfl⟩
    · simp only at a a'; omega
    · rw [r] at r'; cases r'
    · exact ⟨by simp only; rw [h.num.2.2.2], h.told⟩
theorem trd_same {b b2 : Bs} {o : Or} {s q : Int} {v v2 : Bool} (hs : s = 1 ∨ s = 2) (h : Sm b b2) (h1 : Trd b o s q v) (h2 : Trd b2 o s q v2) : v2 = v := by
  obtain ⟨a, n, a3, e3, sa, ca, rfl⟩ := h1
  obtain ⟨a', n', a3', e3', sa', ca', rfl⟩ := h2
  rw [mes_same h] at ca'
  obtain ⟨x1, x2⟩ := cms_same2 (o := o.ioc) hs (Lk.refl _) (mes b s q + 1) a a' [] q (sa.symm.trans (h.trans sa'))
  rw [(came_same hs x1 x2 ca ca').1]
theorem took_same {b b2 : Bs} {es : List Ev} {o : Or} {s q : Int} {b' b2' : Bs} {es' es2' : List Ev} (hs : s = 1 ∨ s = 2) (h : Sm b b2) (h1 : Took b es o s q b' es') (h2 : Took b2 es o s q b2' es2') : es2' = es' ∧ Sm b' b2' := by
  have hh : Sm (b.hgh o.id).told (b2.hgh o.id).told := (h.hgh _).told
  have hsq := h.num.2.2.2
  rcases h1 with ⟨t4, u1, rfl, rfl⟩ | ⟨u1, n, hc⟩
  · rcases h2 with ⟨_, _, rfl, rfl⟩ | ⟨u2, _⟩
    · exact ⟨by rw [hsq], hh.told⟩
    · have := trd_same hs hh u1 (u2 t4); cases this
  · rcases h2 with ⟨t4, u2, _⟩ | ⟨_, n2, hc2⟩
    · have := trd_same hs hh (u1 t4) u2; cases this
    · rw [hsq, mes_same h] at hc2
      obtain ⟨x1, x2⟩ := cms_same2 (o := o) hs (Lk.refl _) (mes b s q + 1) (b.hgh o.id).told (b2.hgh o.id).told (es ++ [(evA o s q).num (nx b.seq)]) q hh
      exact came_same hs x1 x2 hc hc2
theorem erase_map {l l2 : LO} (h : l2.map (·.2) = l.map (·.2)) (i : Nat) : (l2.eraseIdx i).map (·.2) = (l.eraseIdx i).map (·.2) := by
  rw [List.eraseIdx_eq_take_drop_succ, List.eraseIdx_eq_take_drop_succ, List.map_append, List.map_append, List.map_take, List.map_take, List.map_drop, List.map_drop, h]
theorem Sm.del {b b2 : Bs} (h : Sm b b2) {s : Int} (hs : s = 1 ∨ s = 2) (i : Nat) : Sm (b.del s i) (b2.del s i) := h.put hs (erase_map (h.sl s) i)
theorem fd_same {b b2 : Bs} {id : Int} {o o2 : Or} {s s2 : Int} {k k2 i i2 : Nat} (h : Sm b b2) (h1 : Fd b id o s k i) (h2 : Fd b2 id o2 s2 k2 i2) : o2 = o ∧ s2 = s ∧ i2 = i := by
  have e := h2.ff
  rw [fo_same h, h1.ff] at e
  simp only [Prod.mk.injEq, and_true] at e
  obtain ⟨rfl, rfl⟩ := e
  refine ⟨rfl, rfl, ?_⟩
  have e2 := h2.fi
  rw [fnd_map (h.sl s), h1.fi] at e2
  omega
/-- Do of books that are the same. -/
theorem did_same {b b2 : Bs} {c : Cm} {b' b2' : Bs} {es' es2' : List Ev} (h : Sm b b2) (h1 : Did b c b' es') (h2 : Did b2 c b2' es2') : es2' = es' ∧ Sm b' b2' := by
  have hr := rfs_same h c
  have hsq := h.num.2.2.2
  unfold Did at h2
  rw [hr, hsq, cmN_same h] at h2
  rcases h1 with ⟨a, rfl, rfl⟩ | ⟨a, k, o, s, kk, i, hf, rfl, rfl⟩ | ⟨a, k, ht⟩ | ⟨a, k, o, s, kk, i, hf, ht⟩
  · rcases h2 with ⟨_, rfl, rfl⟩ | ⟨a', _⟩ | ⟨a', _⟩ | ⟨a', _⟩
    · exact ⟨rfl, h.told⟩
    · exact absurd a' a
    · exact absurd a' a
    · exact absurd a' a
  · rcases h2 with ⟨a', _⟩ | ⟨_, _, o2, s2, kk2, i2, hf2, rfl, rfl⟩ | ⟨_, k', _⟩ | ⟨_, k', _⟩
    · exact absurd a a'
    · obtain ⟨rfl, rfl, rfl⟩ := fd_same h hf hf2
      exact ⟨rfl, (h.del hf.side _).told⟩
    · omega
    · omega
  · rcases h2 with ⟨a', _⟩ | ⟨_, k', _⟩ | ⟨_, _, ht2⟩ | ⟨_, k', _⟩
    · exact absurd a a'
    · omega
    · rcases rfs_zero a with ⟨k', _⟩ | ⟨_, hs, q1, q2⟩ | ⟨k', _⟩
      · omega
      · have e : cmN b c = c := by unfold cmN; rw [if_neg (by omega)]
        exact took_same (by rw [e]; exact hs) h ht ht2
      · omega
    · omega
  · rcases h2 with ⟨a', _⟩ | ⟨_, k', _⟩ | ⟨_, k', _⟩ | ⟨_, _, o2, s2, kk2, i2, hf2, ht2⟩
    · exact absurd a a'
    · omega
    · omega
    · obtain ⟨rfl, rfl, rfl⟩ := fd_same h hf hf2
      have hsd : (cmN b c).sd = s2 := by unfold cmN; rw [if_pos k, hf.ff]
      exact took_same (by rw [hsd]; exact hf.side) (h.del hf.side _).told ht ht2
theorem Sm.gb {b b2 : Bs} (h : Sm b b2) (g : Gb b) : Gb b2 := by
  have n1 : b2.l1.length = b.l1.length := by have := congrArg List.length h.o1; simpa using this
  have n2 : b2.l2.length = b.l2.length := by have := congrArg List.length h.o2; simpa using this
  have hl := g.len
  have hc := g.cap
  have e1 := h.num.1
  unfold lns at hl
  refine ⟨h.vb g.vb, by unfold lns; omega, by omega, fun S y hy => ?_⟩
  have : y.2 ∈ (b2.sl S).map (·.2) := List.mem_map.2 ⟨y, hy, rfl⟩
  rw [h.sl S] at this
  obtain ⟨z, hz, e⟩ := List.mem_map.1 this
  rw [← e, h.num.2.2.1]
  exact g.ids S z hz
end Go.Proofs.Ytojmcfkbekodpaa
namespace Go.Proofs.Ytojmcfkbekodpaa
open Go.RowKit Go.Deep Go.Shelf
set_option linter.unusedVariables false
set_option linter.unusedSimpArgs false
set_option maxHeartbeats 1000000
theorem dpl_map (s : Int) : ∀ (m : Nat) (l l2 : LO), l2.map (·.2) = l.map (·.2) → dpl s m l2 = dpl s m l
  | 0, l, l2, h => by simp [dpl]
  | m + 1, [], l2, h => by
    have : l2 = [] := by simpa using h
    rw [this]
  | m + 1, x :: r, [], h => by simp at h
  | m + 1, x :: r, x2 :: r2, h => by
    have hx : x2.2 = x.2 := by simp at h; exact h.1
    have hb : bhd s x2.2.pr (x2 :: r2) = bhd s x.2.pr (x :: r) := by rw [hx]; exact bhd_map h
    simp only [dpl]
    rw [hb, hx]
    have hv : vsum ((x2 :: r2).take (bhd s x.2.pr (x :: r))) = vsum ((x :: r).take (bhd s x.2.pr (x :: r))) := by
      have e : ∀ l : LO, vsum l = ((l.map (·.2)).map (·.vi)).sum := fun l => by simp [vsum]; rfl
      rw [e, e]
      have h3 := congrArg (List.take (bhd s x.2.pr (x :: r))) h
      rw [← List.map_take, ← List.map_take] at h3
      rw [h3]
    rw [hv, dpl_map s m ((x :: r).drop _) ((x2 :: r2).drop _) (by rw [List.map_drop, List.map_drop, h])]
theorem bl_same {b b2 : Bs} (h : Sm b b2) (s : Int) (d : Nat) : bl b2 s d = bl b s d := by
  unfold bl
  rw [dpl_map s d _ _ (h.sl s)]
/-- the trades of messages. -/
def trs (D : List Fd.Dm) : List (Int × Int × Int) := (D.filter fun x => x.kd == 2).map fun x => (x.sd, x.pr, x.qt)
theorem trs_app (a b : List Fd.Dm) : trs (a ++ b) = trs a ++ trs b := by simp [trs]
theorem trs_congr : ∀ (a b : List Fd.Dm), a.length = b.length → (∀ i (h : i < a.length) (h' : i < b.length), a[i].kd = b[i].kd ∧ a[i].sd = b[i].sd ∧ a[i].pr = b[i].pr ∧ a[i].qt = b[i].qt) → trs a = trs b
  | [], [], _, _ => rfl
  | x :: a, y :: b, hl, h => by
    have h0 := h 0 (by simp) (by simp)
    have ih := trs_congr a b (by simpa using hl) (fun i hi hi' => h (i + 1) (by simp; omega) (by simp; omega))
    simp only [List.getElem_cons_zero] at h0
    unfold trs at ih ⊢
    rw [List.filter_cons, List.filter_cons, h0.1]
    split
    · rw [List.map_cons, List.map_cons, ih, h0.2.1, h0.2.2.1, h0.2.2.2]
    · exact ih
theorem trs_nmb (s : Int) (l : List Fd.Dm) : trs (Fd.nmb s l) = trs l := by
  refine trs_congr _ _ (Fd.nmb_len s l) (fun i h h' => ?_)
  rw [Fd.nmb_get s l i h']
  exact ⟨rfl, rfl, rfl, rfl⟩
theorem trs_chg (s : Int) (a b : List Fd.Lv) : trs (Fd.chg s a b) = [] := by
  unfold trs
  rw [List.filter_eq_nil_iff.2 (fun x hx => by rw [chg_kd s _ a b (Nat.le_refl _) x hx]; decide)]
  rfl
theorem trs_tdl (l1 l2 : List Fd.Lv) (b : Bs) (d : Nat) (E : List Fd.Ev) : trs (tdl l1 l2 b d E) = trs (Fd.trd E) := by
  unfold tdl
  rw [trs_app, trs_app, trs_chg, trs_chg, List.append_nil, List.append_nil]
theorem fr_sm {b b2 : Bs} {cap meet : Int} (h : Fr b cap meet) (k : Fr b2 cap meet) : Sm b b2 :=
  ⟨⟨k.num.1.trans h.num.1.symm, k.num.2.1.trans h.num.2.1.symm, k.num.2.2.1.trans h.num.2.2.1.symm, k.num.2.2.2.trans h.num.2.2.2.symm⟩, by rw [h.l1, k.l1], by rw [h.l2, k.l2]⟩
/-- what two depths have in common. -/
structure Two (d : Nat) (b b2 : Bs) (D D2 : List Fd.Dm) (L L2 : List (Int × List Fd.Lv × List Fd.Lv)) : Prop where
  sm : Sm b b2
  len : L2.length = L.length
  pic : ∀ i (h : i < L.length) (h' : i < L2.length), L[i].2.1 = L2[i].2.1.take d ∧ L[i].2.2 = L2[i].2.2.take d
  trd : trs D2 = trs D
theorem ply_two {cap meet : Int} {d e : Nat} (hde : d ≤ e) {cs : List Cm} {b : Bs} {D : List Fd.Dm} {L : List (Int × List Fd.Lv × List Fd.Lv)} (h : Ply cap meet d cs b D L) : ∀ {cs2 : List Cm} {b2 : Bs} {D2 : List Fd.Dm} {L2 : List (Int × List Fd.Lv × List Fd.Lv)}, Ply cap meet e cs2 b2 D2 L2 → cs2 = cs → Two d b b2 D D2 L L2 := by
  induction h with
  | nil hf =>
    intro cs2 b2 D2 L2 h2 hcs
    cases h2 with
    | nil hf2 => exact ⟨fr_sm hf hf2, rfl, fun i hi hi' => by
        have : i = 0 := by simp at hi; exact hi
        subst this
        simp, rfl⟩
    | snoc _ _ _ _ _ => simp at hcs
  | @snoc cs b D L c b' es hp hc hg hs hd ih =>
    intro cs2 b2 D2 L2 h2 hcs
    cases h2 with
    | nil _ => simp at hcs
    | snoc hp2 hc2 hg2 hs2 hd2 =>
      obtain ⟨e1, e2⟩ := List.append_inj' hcs rfl
      have e2' := List.singleton_inj.1 e2
      subst e2'
      have t := ih hp2 e1
      obtain ⟨he, hm⟩ := did_same t.sm hd hd2
      subst he
      refine ⟨hm, by rw [List.length_append, List.length_append, t.len]; rfl, fun i hi hi' => ?_, ?_⟩
      · by_cases hlt : i < L.length
        · have h1 := t.pic i hlt (by rw [t.len]; exact hlt)
          rw [List.getElem_append_left hlt, List.getElem_append_left (by rw [t.len]; exact hlt)]
          exact h1
        · have hl := t.len
          rw [List.length_append, List.length_singleton] at hi
          rw [List.getElem_append_right (by omega), List.getElem_append_right (by omega)]
          simp only [List.getElem_singleton]
          rw [bl_same hm, bl_same hm, bl_take _ _ e d hde, bl_take _ _ e d hde]
          exact ⟨rfl, rfl⟩
      · rw [trs_app, trs_app, trs_nmb, trs_nmb, trs_tdl, trs_tdl, t.trd]
end Go.Proofs.Ytojmcfkbekodpaa
