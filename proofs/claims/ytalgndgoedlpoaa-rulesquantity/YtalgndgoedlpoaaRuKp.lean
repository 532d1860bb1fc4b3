/-
  What trades: alike at books that are the same.
-/
import Derived.Test.YtalgndgoedlpoaaRuGa
namespace Go.Proofs.Ytalgndgoedlpoaa
open Go.RowKit Go.Deep Go.Shelf
set_option linter.unusedVariables false
set_option linter.unusedSimpArgs false
theorem bhd_map {s p : Int} {l l2 : LO} (h : l2.map (·.2) = l.map (·.2)) : bhd s p l2 = bhd s p l := by
  have e : ∀ l : LO, bhd s p l = ((l.map (·.2)).takeWhile fun y => !btt s p y.pr).length := fun l => by
    unfold bhd
    rw [List.takeWhile_map, List.length_map]
    rfl
  rw [e, e, h]
theorem ins_map {i : Nat} {x x2 : Nat × Or} {l l2 : LO} (hx : x2.2 = x.2) (h : l2.map (·.2) = l.map (·.2)) : (ins i x2 l2).map (·.2) = (ins i x l).map (·.2) := by
  unfold ins
  simp only [List.map_append, List.map_cons, List.map_take, List.map_drop, h, hx]
theorem agn_map {s : Int} {x x2 : Nat × Or} {r r2 : LO} (hx : x2.2 = x.2) (h : r2.map (·.2) = r.map (·.2)) : (agn s (x2 :: r2)).map (·.2) = (agn s (x :: r)).map (·.2) := by
  show (ins (bhd s x2.2.pr (x2 :: r2) - 1) x2 r2).map (·.2) = (ins (bhd s x.2.pr (x :: r) - 1) x r).map (·.2)
  have : bhd s x2.2.pr (x2 :: r2) = bhd s x.2.pr (x :: r) := by
    rw [hx]
    exact bhd_map (by simp [hx, h])
  rw [this]
  exact ins_map hx h
theorem trl_map {S : Int} {f f2 : Nat} {x : Or} {r r2 : LO} {q : Int} (h : r2.map (·.2) = r.map (·.2)) : (trl S f2 x r2 q).map (·.2) = (trl S f x r q).map (·.2) := by
  unfold trl
  split
  · simp [h]
  · split
    · exact h
    · exact agn_map rfl h
theorem Sm.told {b b2 : Bs} (h : Sm b b2) : Sm b.told b2.told := ⟨⟨h.num.1, h.num.2.1, h.num.2.2.1, by show nx _ = nx _; rw [h.num.2.2.2]⟩, h.o1, h.o2⟩
theorem Sm.put {b b2 : Bs} (h : Sm b b2) {s : Int} (hs : s = 1 ∨ s = 2) {p p2 : Option Addr} {c c2 : Nat} {l l2 : LO} (hl : l2.map (·.2) = l.map (·.2)) : Sm (b.put s p c l) (b2.put s p2 c2 l2) := by
  rcases hs with rfl | rfl
  · exact ⟨h.num, hl, h.o2⟩
  · exact ⟨h.num, h.o1, hl⟩
/-- two orders that meet alike. -/
structure Lk (o o2 : Or) : Prop where
  id : o2.id = o.id
  mb : o2.mb = o.mb
  pr : o2.pr = o.pr
  ty : (o2.ty == 2) = (o.ty == 2)
theorem mtB_same {b b2 : Bs} {o o2 : Or} {s q : Int} {f f2 : Nat} {x : Or} {r r2 : LO} (hs : s = 1 ∨ s = 2) (h : Sm b b2) (k : Lk o o2) (hl : b.sl (oth s) = (f, x) :: r) (hl2 : b2.sl (oth s) = (f2, x) :: r2) (hr : r2.map (·.2) = r.map (·.2)) :
    (mtB b2 o2 s q f2 x r2).2 = (mtB b o s q f x r).2 ∧ Sm (mtB b o s q f x r).1 (mtB b2 o2 s q f2 x r2).1 := by
  have hS := oth_side hs
  have hp : prt b2 o2 x = prt b o x := by unfold prt; rw [h.num.2.1, k.mb]
  have hsq := h.num.2.2.2
  have hm := h.num.2.1
  have hev : ∀ q', evT o2 s x q' = evT o s x q' := fun q' => by unfold evT; rw [k.id]
  unfold mtB
  rw [hp, hm, hsq, k.id]
  split
  · refine ⟨by simp only [tre, hev], ?_⟩
    have ht : Sm (trb b x (min q x.vi)) (trb b2 x (min q x.vi)) := by
      unfold trb
      split
      · exact h.told
      · split
        · exact h.told
        · exact h.told.told
    exact ht.put hS (trl_map hr)
  · have hd : Sm (b.del (oth s) 0) (b2.del (oth s) 0) := h.put hS (by rw [hl, hl2]; exact hr)
    split
    · exact ⟨rfl, h.told⟩
    · split
      · exact ⟨rfl, hd.told⟩
      · exact ⟨rfl, hd.told.told⟩
theorem mts_same {b b2 : Bs} {o o2 : Or} {s : Int} (h : Sm b b2) (k : Lk o o2) : mts b2 o2 s = mts b o s := by
  unfold mts
  have e := h.sl (oth s)
  cases hl : b.sl (oth s) with
  | nil => rw [hl] at e; simp only [List.map_nil, List.map_eq_nil_iff] at e; rw [e]; rfl
  | cons y r =>
    rw [hl] at e
    cases hl2 : b2.sl (oth s) with
    | nil => rw [hl2] at e; simp at e
    | cons y2 r2 =>
      rw [hl2] at e
      simp only [List.map_cons, List.cons.injEq] at e
      show rch o2 s y2.2.pr = rch o s y.2.pr
      unfold rch
      rw [e.1, k.ty, k.pr]
theorem cms_same {o o2 : Or} {s : Int} (hs : s = 1 ∨ s = 2) (k : Lk o o2) : ∀ (n : Nat) (b b2 : Bs) (es es2 : List Ev) (q : Int), Sm b b2 → ∃ add, (cms o s n (b, es, q)).2.1 = es ++ add ∧ (cms o2 s n (b2, es2, q)).2.1 = es2 ++ add ∧ (cms o2 s n (b2, es2, q)).2.2 = (cms o s n (b, es, q)).2.2
  | 0, b, b2, es, es2, q, h => ⟨[], by simp [cms], by simp [cms], rfl⟩
  | n + 1, b, b2, es, es2, q, h => by
    by_cases hc : 0 < q ∧ mts b o s = true
    · have hc2 : 0 < q ∧ mts b2 o2 s = true := ⟨hc.1, by rw [mts_same h k]; exact hc.2⟩
      obtain ⟨f, x, r, hl⟩ := mts_cons hc.2
      obtain ⟨f2, x2, r2, hl2⟩ := mts_cons hc2.2
      have e := h.sl (oth s)
      rw [hl, hl2] at e
      simp only [List.map_cons, List.cons.injEq] at e
      obtain ⟨rfl, hr⟩ := e
      rw [cms_step hc hl, cms_step hc2 hl2]
      obtain ⟨e1, e2⟩ := mtB_same (q := q) hs h k hl hl2 hr
      rw [e1]
      obtain ⟨add, g1, g2, g3⟩ := cms_same hs k n _ _ (es ++ (mtB b o s q f x2 r).2.1) (es2 ++ (mtB b o s q f x2 r).2.1) (mtB b o s q f x2 r).2.2 e2
      exact ⟨(mtB b o s q f x2 r).2.1 ++ add, by rw [g1, List.append_assoc], by rw [g2, List.append_assoc], g3⟩
    · have hc2 : ¬ (0 < q ∧ mts b2 o2 s = true) := by rw [mts_same h k]; exact hc
      rw [cms_end hc, cms_end hc2]
      exact ⟨[], by simp, by simp, rfl⟩
/-- what trades in what is told. -/
def trd : List Ev → Int
  | [] => 0
  | e :: es => (if e.kd = 3 then e.qt else 0) + trd es
theorem trd_append (a b : List Ev) : trd (a ++ b) = trd a + trd b := by
  induction a with
  | nil => simp [trd]
  | cons e es ih => simp only [List.cons_append, trd, ih]; omega
/-- each trade is of something. -/
def Pos (es : List Ev) : Prop := ∀ e ∈ es, e.kd = 3 → 0 ≤ e.qt
theorem trd_pos {es : List Ev} (h : Pos es) : 0 ≤ trd es := by
  induction es with
  | nil => exact Int.le_refl _
  | cons e es ih =>
    have h1 := ih (fun x hx => h x (List.mem_cons_of_mem _ hx))
    have h2 := h e (by simp)
    unfold trd
    split
    · have := h2 ‹_›; omega
    · omega
theorem fld_trd {es : List Ev} {q : Int} (h : Pos es) (h1 : trd es ≤ q) (h2 : q < 4294967296) : fld q es = q - trd es := by
  induction es generalizing q with
  | nil => simp [fld, trd]
  | cons e es ih =>
    have hp : Pos es := fun x hx => h x (List.mem_cons_of_mem _ hx)
    have h3 := trd_pos hp
    have h4 := h e (by simp)
    unfold fld
    unfold trd at h1 ⊢
    by_cases k : e.kd = 3
    · have := h4 k
      rw [if_pos k] at h1 ⊢
      rw [if_pos k]
      rw [show IntKind.u64.wrap (q - e.qt) = q - e.qt by rw [IntKind.wrap_u64]; omega]
      rw [ih hp (by omega) (by omega)]
      omega
    · rw [if_neg k] at h1 ⊢
      rw [if_neg k, ih hp (by omega) h2]
      omega
theorem mtB_trd {b : Bs} {o : Or} {s q : Int} {f : Nat} {x : Or} {r : LO} (hq : 0 ≤ q) (hx : 0 ≤ x.vi) : Pos (mtB b o s q f x r).2.1 ∧ trd (mtB b o s q f x r).2.1 + (mtB b o s q f x r).2.2 ≤ q := by
  unfold mtB
  split
  · simp only [tre]
    split
    · exact ⟨by intro e he; simp only [List.mem_singleton] at he; subst he; intro _; show 0 ≤ min q x.vi; omega, by simp [trd, evT, Ev.num]; omega⟩
    · split
      · exact ⟨by intro e he; simp only [List.mem_singleton] at he; subst he; intro _; show 0 ≤ min q x.vi; omega, by simp [trd, evT, Ev.num]; omega⟩
      · refine ⟨?_, by simp [trd, evT, evF, Ev.num]; omega⟩
        intro e he
        simp only [List.mem_cons, List.not_mem_nil, or_false] at he
        rcases he with rfl | rfl
        · intro _; show 0 ≤ min q x.vi; omega
        · intro h; cases h
  · split
    · exact ⟨by intro e he; simp only [List.mem_singleton] at he; subst he; intro h; exact absurd (show (4 : Int) = 3 from h) (by decide), by simp [trd, evC, Ev.num]; omega⟩
    · split
      · exact ⟨by intro e he; simp only [List.mem_singleton] at he; subst he; intro h; exact absurd (show (4 : Int) = 3 from h) (by decide), by simp [trd, evC, Ev.num]⟩
      · refine ⟨?_, by simp [trd, evC, Ev.num]; omega⟩
        intro e he
        simp only [List.mem_cons, List.not_mem_nil, or_false] at he
        rcases he with rfl | rfl <;> (intro h; cases h)
theorem cms_trd {o : Or} {s : Int} (hs : s = 1 ∨ s = 2) : ∀ (n : Nat) (b : Bs) (es : List Ev) (q : Int), Vb b → 0 ≤ q → Pos es → Pos (cms o s n (b, es, q)).2.1 ∧ trd (cms o s n (b, es, q)).2.1 + (cms o s n (b, es, q)).2.2 ≤ trd es + q
  | 0, b, es, q, v, hq, hp => ⟨hp, Int.le_refl _⟩
  | n + 1, b, es, q, v, hq, hp => by
    by_cases hc : 0 < q ∧ mts b o s = true
    · obtain ⟨f, x, r, hl⟩ := mts_cons hc.2
      rw [cms_step hc hl]
      obtain ⟨v', _, _, q0, q1⟩ := v.met (o := o) hs hl hc.1
      have hx := (v.ok (oth s) (f, x) (by rw [hl]; simp)).1
      simp only at hx
      obtain ⟨m1, m2⟩ := mtB_trd (b := b) (o := o) (s := s) (f := f) (r := r) hq (Int.le_of_lt hx)
      obtain ⟨g1, g2⟩ := cms_trd (o := o) hs n (mtB b o s q f x r).1 (es ++ (mtB b o s q f x r).2.1) (mtB b o s q f x r).2.2 v' q0 (by
        intro e he
        rcases List.mem_append.1 he with he | he
        · exact hp e he
        · exact m1 e he)
      refine ⟨g1, ?_⟩
      rw [trd_append] at g2
      omega
    · rw [cms_end hc]
      exact ⟨hp, Int.le_refl _⟩
end Go.Proofs.Ytalgndgoedlpoaa
