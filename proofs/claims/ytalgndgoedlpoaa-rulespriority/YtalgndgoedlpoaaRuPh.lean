/-
  Price and time, plainly.
-/
import Derived.Test.YtalgndgoedlpoaaRuPe
import Derived.Test.YtalgndgoedlpoaaRuKq
import Derived.Test.YtalgndgoedlpoaaRuKw
namespace Go.Proofs.Ytalgndgoedlpoaa
section
open Go.RowKit Go.Deep Go.Shelf
set_option linter.unusedVariables false
set_option linter.unusedSimpArgs false
/-- the bounds of an order that may show nothing. -/
def OrB (x : Or) : Prop := 0 ≤ x.vi ∧ 0 ≤ x.hi ∧ x.vi + x.hi < 4294967296 ∧ 0 ≤ x.pk
theorem OrOk.b {x : Or} (h : OrOk x) : OrB x := ⟨Int.le_of_lt h.1, h.2.1, h.2.2.1, h.2.2.2⟩
/-- what the law asks of the events behind an ack. -/
def Pr : Ev → Int → List Or → List Ev → Prop
  | _, _, _, [] => True
  | a, q, l, e :: es =>
    (e.kd = 3 ∧ 0 ≤ q ∧ q < 4294967296 ∧ ∃ y r, l = y :: r ∧ OrB y ∧ e.id = a.id ∧ e.ot = y.id ∧ e.pr = y.pr ∧ e.sd = a.sd ∧ (a.ty ≠ 2 → (a.sd = 1 → y.pr ≤ a.pr) ∧ (a.sd = 2 → a.pr ≤ y.pr)) ∧ e.qt = min q y.vi ∧
      ((y.vi - min q y.vi = 0 ∧ y.hi = 0 ∧ Pr a (q - min q y.vi) r es) ∨
       (y.vi - min q y.vi ≠ 0 ∧ Pr a (q - min q y.vi) (y.less (min q y.vi) :: r) es) ∨
       (y.vi - min q y.vi = 0 ∧ y.hi ≠ 0 ∧ (∃ e' es', es = e' :: es' ∧ e'.kd = 5) ∧ Pr a (q - min q y.vi) (y.less (min q y.vi) :: r) es))) ∨
    (e.kd = 5 ∧ ∃ y r, l = y :: r ∧ r.length ≤ 1048576 ∧ OrB y ∧ y.id = e.id ∧ y.vi = 0 ∧ y.hi ≠ 0 ∧ y.pk ≠ 0 ∧ e.pr = y.pr ∧ e.qt = y.shn.vi ∧ Pr a q (inO (bhO (oth a.sd) y.pr r) y.shn r) es) ∨
    (e.kd = 4 ∧ ((e.rs = 5 ∧ e.id ≠ a.id ∧ ∃ y r, l = y :: r ∧ OrB y ∧ y.id = e.id ∧ y.mb ≠ 0 ∧ y.mb = a.mb ∧ e.qt = y.vi + y.hi ∧ Pr a q r es) ∨ (¬ (e.rs = 5 ∧ e.id ≠ a.id) ∧ Pr a q l es)))
/-- what it asks ahead of an ack. -/
def P0 (b : Bs) : List Ev → Prop
  | [] => True
  | e :: es => (e.kd = 1 ∧ (e.sd = 1 ∨ e.sd = 2) ∧ Pr e e.qt (osl (b.sl (oth e.sd))) es) ∨ ((e.kd = 2 ∨ (e.kd = 4 ∧ e.rs ≠ 5)) ∧ P0 b es)
/-- events that end it. -/
def Tl (a : Ev) (t : List Ev) : Prop := ∀ e ∈ t, e.kd = 4 ∧ ¬ (e.rs = 5 ∧ e.id ≠ a.id)
theorem pr_tl {a : Ev} : ∀ {t : List Ev} (q : Int) (l : List Or), Tl a t → Pr a q l t
  | [], _, _, _ => trivial
  | e :: t, q, l, h => .inr (.inr ⟨(h e (by simp)).1, .inr ⟨(h e (by simp)).2, pr_tl q l (fun x hx => h x (by simp [hx]))⟩⟩)
/-- with no peak all is shown. -/
def Pkl (l : LO) : Prop := ∀ y ∈ l, y.2.pk = 0 → y.2.hi = 0
theorem osl_ins (k : Nat) (x : Nat × Or) (r : LO) : osl (ins k x r) = inO k x.2 (osl r) := by
  simp [osl, ins, inO, List.map_take, List.map_drop]
theorem bhd_osl (s p : Int) (l : LO) : bhd s p l = bhO s p (osl l) := by
  unfold bhd bhO osl
  rw [List.takeWhile_map, List.length_map]
  rfl
theorem btt_self (s p : Int) : btt s p p = false := by unfold btt; split <;> simp
theorem osl_agn (S : Int) (x : Nat × Or) (r : LO) : osl (agn S (x :: r)) = inO (bhO S x.2.pr (osl r)) x.2 (osl r) := by
  have e : bhd S x.2.pr (x :: r) = bhd S x.2.pr r + 1 := by
    simp [bhd, List.takeWhile_cons, btt_self]
  show osl (ins (bhd S x.2.pr (x :: r) - 1) x r) = _
  rw [e, Nat.add_sub_cancel, osl_ins, bhd_osl]
theorem pkl_agn {S : Int} {x : Nat × Or} {r : LO} (h : Pkl (x :: r)) : Pkl (agn S (x :: r)) := fun y hy => h y ((agn_perm S _).mem_iff.1 hy)
theorem pkl_trl {S : Int} {f : Nat} {x : Or} {r : LO} {q : Int} (h : Pkl ((f, x) :: r)) : Pkl (trl S f x r q) := by
  have h0 := h (f, x) (by simp)
  have h1 : Pkl r := fun y hy => h y (by simp [hy])
  unfold trl
  split
  · intro y hy
    rcases List.mem_cons.1 hy with rfl | hy
    · exact h0
    · exact h1 y hy
  · split
    · exact h1
    · rename_i hh
      refine pkl_agn ?_
      intro y hy
      rcases List.mem_cons.1 hy with rfl | hy
      · intro e
        exact absurd (h0 e) hh
      · exact h1 y hy
theorem mtB_pk {b : Bs} {o : Or} {s q : Int} {f : Nat} {x : Or} {r : LO} (hs : s = 1 ∨ s = 2) (hl : b.sl (oth s) = (f, x) :: r) (h : ∀ S, Pkl (b.sl S)) : ∀ S, Pkl ((mtB b o s q f x r).1.sl S) := by
  have hS := oth_side hs
  have hx : Pkl ((f, x) :: r) := by rw [← hl]; exact h _
  have hd : ∀ S, Pkl ((b.del (oth s) 0).sl S) := fun S => by
    unfold Bs.del
    rw [put_sl' _ _ _ _ _ _ hS]
    split
    · exact fun y hy => h _ y (List.mem_of_mem_eraseIdx hy)
    · exact h S
  intro S
  unfold mtB
  split
  · have e : (trb b x (min q x.vi)).sl S = b.sl S := by
      unfold trb
      split
      · rfl
      · split <;> rfl
    simp only
    rw [put_sl' _ _ _ _ _ _ hS]
    split
    · exact pkl_trl hx
    · rw [e]; exact h S
  · split
    · exact h S
    · split
      · exact hd S
      · exact hd S
theorem cms_pk {o : Or} {s : Int} (hs : s = 1 ∨ s = 2) : ∀ (n : Nat) (b : Bs) (es : List Ev) (q : Int), (∀ S, Pkl (b.sl S)) → ∀ S, Pkl ((cms o s n (b, es, q)).1.sl S)
  | 0, b, es, q, h => h
  | n + 1, b, es, q, h => by
    by_cases hc : 0 < q ∧ mts b o s = true
    · obtain ⟨f, x, r, hl⟩ := mts_cons hc.2
      rw [cms_step hc hl]
      exact cms_pk hs n _ _ _ (mtB_pk hs hl h)
    · rw [cms_end hc]
      exact h
theorem took_pk {b : Bs} {es : List Ev} {o : Or} {s q : Int} {b' : Bs} {es' : List Ev} (hs : s = 1 ∨ s = 2) (h : Took b es o s q b' es') (k : ∀ S, Pkl (b.sl S)) : ∀ S, Pkl (b'.sl S) := by
  rcases h with ⟨_, _, rfl, _⟩ | ⟨_, n, hc⟩
  · exact k
  · have h1 := cms_pk (o := o) hs (mes b s q + 1) (b.hgh o.id).told (es ++ [(evA o s q).num (nx b.seq)]) q k
    rcases hc with ⟨_, rfl, _⟩ | ⟨_, _, _, p', c', blk, _, rfl⟩ | ⟨_, _, rfl, _⟩
    · exact h1
    · intro S
      rw [put_sl' _ _ _ _ _ _ hs]
      split
      · intro y hy
        rcases List.mem_cons.1 (ins_perm.mem_iff.1 hy) with rfl | hy
        · intro e
          have e' : o.pk = 0 := e
          simp [shw, e']
        · exact h1 s y hy
      · exact h1 S
    · exact h1
theorem did_pk {b : Bs} {c : Cm} {b' : Bs} {es : List Ev} (h : Did b c b' es) (k : ∀ S, Pkl (b.sl S)) : ∀ S, Pkl (b'.sl S) := by
  have hd : ∀ s i, (s = 1 ∨ s = 2) → ∀ S, Pkl ((b.del s i).sl S) := fun s i hs S => by
    unfold Bs.del
    rw [put_sl' _ _ _ _ _ _ hs]
    split
    · exact fun y hy => k _ y (List.mem_of_mem_eraseIdx hy)
    · exact k S
  rcases h with ⟨_, rfl, _⟩ | ⟨_, _, o, s, kk, i, hf, rfl, _⟩ | ⟨h0, k1, ht⟩ | ⟨h0, k3, o, s, kk, i, hf, ht⟩
  · exact k
  · exact hd s i hf.side
  · have e : cmN b c = c := by unfold cmN; rw [if_neg (by omega)]
    rw [e] at ht
    rcases rfs_zero h0 with ⟨x, _⟩ | ⟨_, hs, _, _⟩ | ⟨x, _⟩
    · omega
    · exact took_pk hs ht k
    · omega
  · have hsd : (cmN b c).sd = s := by unfold cmN; rw [if_pos k3, hf.ff]
    rw [hsd] at ht
    exact took_pk hf.side ht (hd s i hf.side)
theorem cms_pr {o : Or} {s : Int} (hs : s = 1 ∨ s = 2) {a : Ev} (a1 : a.id = o.id) (a2 : a.sd = s) (a3 : a.ty = o.ty) (a4 : a.pr = o.pr) (a5 : a.mb = o.mb) : ∀ (n : Nat) (b : Bs) (es : List Ev) (q : Int), Vb b → (∀ S, Pkl (b.sl S)) → (∀ y ∈ b.sl (oth s), y.2.id ≠ o.id) → 0 ≤ q → q < 4294967296 → ∃ add, (cms o s n (b, es, q)).2.1 = es ++ add ∧ ∀ t, Tl a t → Pr a q (osl (b.sl (oth s))) (add ++ t)
  | 0, b, es, q, v, p, hi, hq, hq' => ⟨[], by simp [cms], fun t ht => pr_tl _ _ ht⟩
  | n + 1, b, es, q, v, p, hi, hq, hq' => by
    by_cases hc : 0 < q ∧ mts b o s = true
    · obtain ⟨f, x, r, hl⟩ := mts_cons hc.2
      rw [cms_step hc hl]
      have hS := oth_side hs
      obtain ⟨v', _, _, q0, q1⟩ := v.met (o := o) hs hl hc.1
      have hx := v.ok (oth s) (f, x) (by rw [hl]; simp)
      have hxi := hi (f, x) (by rw [hl]; simp)
      have hxp := p (oth s) (f, x) (by rw [hl]; simp)
      simp only at hx hxi hxp
      have hsb := mtB_sb (o := o) (q := q) hs hl
      have hi' : ∀ y ∈ (mtB b o s q f x r).1.sl (oth s), y.2.id ≠ o.id := fun y hy e => by
        obtain ⟨z, hz, e'⟩ := hsb.sub _ y hy
        exact hi z hz (e'.trans e)
      have hrc : rch o s x.pr = true := by
        have := hc.2
        unfold mts at this
        rw [hl] at this
        exact this
      have hre : a.ty ≠ 2 → (a.sd = 1 → x.pr ≤ a.pr) ∧ (a.sd = 2 → a.pr ≤ x.pr) := fun h2 => by
        unfold rch at hrc
        rw [← a3, ← a4, ← a2] at hrc
        have e2 : (a.ty == 2) = false := by simpa using h2
        rw [e2, Bool.false_or] at hrc
        unfold btt at hrc
        constructor
        · intro h; rw [if_pos h] at hrc; simp at hrc; omega
        · intro h; rw [if_neg (by omega)] at hrc; simp at hrc; omega
      have hosl : osl (b.sl (oth s)) = x :: osl r := by rw [hl]; rfl
      have hrl : (osl r).length ≤ 1048576 := by
        have h1 := v.len
        have h2 : (b.sl (oth s)).length ≤ b.l1.length + b.l2.length := by
          unfold Bs.sl
          split
          · omega
          · omega
        rw [hl] at h2
        simp only [List.length_cons] at h2
        simp only [osl, List.length_map]
        omega
      obtain ⟨add, g1, g2⟩ := cms_pr hs a1 a2 a3 a4 a5 n (mtB b o s q f x r).1 (es ++ (mtB b o s q f x r).2.1) (mtB b o s q f x r).2.2 v' (mtB_pk hs hl p) hi' q0 (by omega)
      refine ⟨(mtB b o s q f x r).2.1 ++ add, by rw [g1, List.append_assoc], fun t ht => ?_⟩
      have g := g2 t ht
      rw [hosl]
      by_cases hp : prt b o x = false
      · have em : mtB b o s q f x r = ((trb b x (min q x.vi)).put (oth s) (b.sp (oth s)) (b.sc (oth s)) (trl (oth s) f x r (min q x.vi)), tre b.seq o s x (min q x.vi), q - min q x.vi) := by unfold mtB; rw [if_pos hp]
        rw [em] at g ⊢
        simp only at g ⊢
        rw [put_sl' _ _ _ _ _ _ hS, if_pos Iff.rfl] at g
        unfold tre
        unfold trl at g
        by_cases c1 : 0 < x.vi - min q x.vi
        · rw [if_pos c1] at g ⊢
          refine .inl ⟨rfl, hq, hq', x, osl r, rfl, hx.b, a1.symm, rfl, rfl, a2.symm, hre, rfl, .inr (.inl ⟨by omega, g⟩)⟩
        · rw [if_neg c1] at g ⊢
          have c0 : x.vi - min q x.vi = 0 := by omega
          by_cases c2 : x.hi = 0
          · rw [if_pos c2] at g ⊢
            exact .inl ⟨rfl, hq, hq', x, osl r, rfl, hx.b, a1.symm, rfl, rfl, a2.symm, hre, rfl, .inl ⟨c0, c2, g⟩⟩
          · rw [if_neg c2] at g ⊢
            rw [osl_agn] at g
            refine .inl ⟨rfl, hq, hq', x, osl r, rfl, hx.b, a1.symm, rfl, rfl, a2.symm, hre, rfl, .inr (.inr ⟨c0, c2, ⟨_, _, rfl, rfl⟩, ?_⟩)⟩
            refine .inr (.inl ⟨rfl, x.less (min q x.vi), osl r, rfl, hrl, ⟨by show 0 ≤ x.vi - min q x.vi; omega, hx.2.1, by show x.vi - min q x.vi + x.hi < _; have := hx.2.2.1; have := hx.1; omega, hx.2.2.2⟩, rfl, c0, c2, fun e => c2 (hxp e), rfl, rfl, ?_⟩)
            rw [a2]
            exact g
      · by_cases m1 : b.meet = 1
        · have em : mtB b o s q f x r = (b.told, [(evC o.id q 5).num (nx b.seq)], 0) := by unfold mtB; rw [if_neg hp, if_pos m1]
          rw [em] at g1 ⊢
          rw [cms_end (by rintro ⟨hx0, _⟩; simp only at hx0; omega)] at g1
          have e0 : add = [] := by simpa using g1
          rw [e0]
          exact .inr (.inr ⟨rfl, .inr ⟨fun h => h.2 a1.symm, pr_tl _ _ ht⟩⟩)
        · have hmb : x.mb ≠ 0 ∧ x.mb = a.mb := by
            rw [a5]
            simp only [prt, Bool.not_eq_false, Bool.not_eq_true', Bool.or_eq_false_iff, beq_eq_false_iff_ne, bne_eq_false_iff_eq] at hp
            exact ⟨by rw [← hp.2]; exact hp.1.2, hp.2.symm⟩
          have hdl : (b.del (oth s) 0).sl (oth s) = r := by
            unfold Bs.del
            rw [put_sl' _ _ _ _ _ _ hS, if_pos Iff.rfl, hl]
            rfl
          by_cases m2 : b.meet = 2
          · have em : mtB b o s q f x r = ((b.del (oth s) 0).told, [(evC x.id (x.vi + x.hi) 5).num (nx b.seq)], q) := by unfold mtB; rw [if_neg hp, if_neg m1, if_pos m2]
            rw [em] at g ⊢
            refine .inr (.inr ⟨rfl, .inl ⟨rfl, by rw [a1]; exact hxi, x, osl r, rfl, hx.b, rfl, hmb.1, hmb.2, rfl, ?_⟩⟩)
            have e : ((b.del (oth s) 0).told).sl (oth s) = r := hdl
            simp only at g
            rw [e] at g
            exact g
          · have em : mtB b o s q f x r = ((b.del (oth s) 0).told.told, [(evC x.id (x.vi + x.hi) 5).num (nx b.seq), (evC o.id q 5).num (nx (nx b.seq))], 0) := by unfold mtB; rw [if_neg hp, if_neg m1, if_neg m2]
            rw [em] at g1 ⊢
            rw [cms_end (by rintro ⟨hx0, _⟩; simp only at hx0; omega)] at g1
            have e0 : add = [] := by simpa using g1
            rw [e0]
            refine .inr (.inr ⟨rfl, .inl ⟨rfl, by rw [a1]; exact hxi, x, osl r, rfl, hx.b, rfl, hmb.1, hmb.2, rfl, ?_⟩⟩)
            exact .inr (.inr ⟨rfl, .inr ⟨fun h => h.2 a1.symm, pr_tl _ _ ht⟩⟩)
    · rw [cms_end hc]
      exact ⟨[], by simp, fun t ht => pr_tl _ _ ht⟩
theorem took_pr {b : Bs} {es : List Ev} {o : Or} {s q : Int} {b' : Bs} {es' : List Ev} (hs : s = 1 ∨ s = 2) (h : Took b es o s q b' es') (v : Vb b) (p : ∀ S, Pkl (b.sl S)) (hi : ∀ y ∈ b.sl (oth s), y.2.id ≠ o.id) (hq : 0 ≤ q) (hq' : q < 4294967296) : ∃ t, es' = es ++ (evA o s q).num (nx b.seq) :: t ∧ Pr ((evA o s q).num (nx b.seq)) q (osl (b.sl (oth s))) t := by
  rcases h with ⟨_, _, _, rfl⟩ | ⟨_, n, hc⟩
  · refine ⟨[(evC o.id q 4).num (nx (nx b.seq))], by simp, pr_tl _ _ ?_⟩
    intro e he
    simp only [List.mem_singleton] at he
    subst he
    exact ⟨rfl, fun h => absurd (show (4 : Int) = 5 from h.1) (by decide)⟩
  · obtain ⟨add, h1, h2⟩ := cms_pr (o := o) hs (a := (evA o s q).num (nx b.seq)) rfl rfl rfl rfl rfl (mes b s q + 1) (b.hgh o.id).told (es ++ [(evA o s q).num (nx b.seq)]) q (v.hgh _).told p hi hq hq'
    rcases hc with ⟨_, _, rfl⟩ | ⟨_, _, rfl, _⟩ | ⟨_, _, _, he⟩
    · exact ⟨add, by rw [h1]; simp, by have := h2 [] (fun e he => by cases he); rw [List.append_nil] at this; exact this⟩
    · exact ⟨add, by rw [h1]; simp, by have := h2 [] (fun e he => by cases he); rw [List.append_nil] at this; exact this⟩
    · obtain ⟨E, hE, k1, k2⟩ : ∃ E : Ev, es' = (cms o s (mes b s q + 1) ((b.hgh o.id).told, es ++ [(evA o s q).num (nx b.seq)], q)).2.1 ++ [E] ∧ E.kd = 4 ∧ E.rs = 3 := ⟨_, he, rfl, rfl⟩
      refine ⟨add ++ [E], by rw [hE, h1]; simp, h2 _ ?_⟩
      intro e he
      simp only [List.mem_singleton] at he
      subst he
      exact ⟨k1, fun h => by omega⟩
theorem did_pr {b : Bs} {c : Cm} {b' : Bs} {es : List Ev} (h : Did b c b' es) (g : Gb b) (p : ∀ S, Pkl (b.sl S)) : P0 b es := by
  have hid' : ∀ o : Or, b.high < o.id → ∀ S, ∀ y ∈ b.sl S, y.2.id ≠ o.id := fun o ho S y hy e => by have := g.ids S y hy; omega
  rcases h with ⟨n, rfl, rfl⟩ | ⟨_, k, o, s, kk, i, hf, rfl, rfl⟩ | ⟨h0, k1, ht⟩ | ⟨h0, k3, o, s, kk, i, hf, ht⟩
  · exact .inr ⟨.inl rfl, trivial⟩
  · exact .inr ⟨.inr ⟨rfl, by show (1 : Int) ≠ 5; decide⟩, trivial⟩
  · have e : cmN b c = c := by unfold cmN; rw [if_neg (by omega)]
    rw [e] at ht
    obtain ⟨n1, _⟩ := rfs_new h0 (by omega)
    rcases rfs_zero h0 with ⟨x, _⟩ | ⟨_, hs, q1, q2⟩ | ⟨x, _⟩
    · omega
    · obtain ⟨t, rfl, ht2⟩ := took_pr hs ht g.vb p (hid' (ord c) n1 _) (by omega) (by omega)
      exact .inl ⟨rfl, hs, ht2⟩
    · omega
  · obtain ⟨n1, _⟩ := rfs_new h0 (by omega)
    have hsd : (cmN b c).sd = s := by unfold cmN; rw [if_pos k3, hf.ff]
    rw [hsd] at ht
    have hcid : (ord (cmN b c)).id = c.id := by unfold cmN; rw [if_pos k3]; rfl
    have hs := hf.side
    have ho : (b.del s i).told.sl (oth s) = b.sl (oth s) := by
      have := put_own b (s := oth s) (oth_side hs) (b.sp s) (b.sc s) ((b.sl s).eraseIdx i)
      rw [oth_oth hs] at this
      exact this.1
    rcases rfs_zero h0 with ⟨x, _⟩ | ⟨x, _⟩ | ⟨_, _, q1, q2⟩
    · omega
    · omega
    · obtain ⟨t, rfl, ht2⟩ := took_pr hs ht (g.vb.del hs i).told (fun S => by
        have : ∀ S, Pkl ((b.del s i).sl S) := fun S => by
          unfold Bs.del
          rw [put_sl' _ _ _ _ _ _ hs]
          split
          · exact fun y hy => p _ y (List.mem_of_mem_eraseIdx hy)
          · exact p S
        exact this S) (by rw [ho]; exact hid' _ (by rw [hcid]; exact n1) _) (by omega) (by omega)
      refine .inr ⟨.inr ⟨rfl, by show (2 : Int) ≠ 5; decide⟩, .inl ⟨rfl, hs, ?_⟩⟩
      rw [ho] at ht2
      exact ht2
end

section
open Go.RowKit Go.Deep Go.Shelf
set_option linter.unusedVariables false
set_option linter.unusedSimpArgs false
set_option maxHeartbeats 2000000
theorem pl_do3 {w : World} {B : Nat} {b : Bs} {U : World} (c : Cm) (h : Pl w B b U) (hc : CmOk c) :
    Calls Try.prog 10 #[.pointer (some ⟨B, 0, none⟩), .agg (cmr c)] U fun e w' => ∃ b' p q es', e = .returned (.slice p es'.length q) ∧ Pl w B b' w' ∧ w'.ownsRow 0 58 13 (.slice p es'.length q) es'.length (evs es') ∧ Did b c b' es' ∧ Kp (b.fp B) U w' ∧ ∀ j, b'.fp B j → b.fp B j ∨ U.heap.size ≤ j := by
  refine (do_any B b c U h.bm h.gb.vb hc).mono ?_
  rintro e w' ⟨T, b', ve', es', rfl, htd, hd⟩
  obtain ⟨p, q, rfl⟩ := own_form htd.tn.ev
  refine ⟨b', p, q, es', rfl, ⟨h.be.trans (htd.kp.below h.be.size (fun j hj hf => by have := h.nw j hf; omega)), htd.tn.bm, (hd.good h.gb hc).1, fun j hj => ?_⟩, htd.tn.ev, hd, htd.kp, fun j hj => htd.fr j (.inr hj)⟩
  rcases htd.fr j (.inr hj) with e | e
  · exact h.nw j e
  · exact Nat.le_trans h.be.size e
theorem Pl.keep {W : World} {B : Nat} {b : Bs} {V U : World} {F : Nat → Prop} (h : Pl W B b V) (hk : Kp F V U) (hne : ∀ j, b.fp B j → ¬ F j) (hW : ∀ j, F j → W.heap.size ≤ j) : Pl W B b U :=
  ⟨h.be.trans (hk.below h.be.size (fun j hj hf => by have := hW j hf; omega)), h.bm.kept hk hne, h.gb, h.nw⟩
/-- orders in memory, from some place of a block on. -/
structure Sd (U : World) (F : Nat → Prop) (p : Option Addr) (c : Nat) (l : List Or) : Prop where
  le : l.length ≤ c
  mx : c ≤ maxLen
  at' : l ≠ [] → ∃ g off cur, p = some ⟨g, off, none⟩ ∧ F g ∧ U.heap[g]? = some (.cells cur 50 (0, 0)) ∧ ∀ i (h : i < l.length) j, j < 7 → cur[off + i * 7 + j]? = (orow l[i]).toList[j]?
theorem Sd.osz {U : World} {F : Nat → Prop} {p : Option Addr} {c : Nat} {l : List Or} (h : Sd U F p c l) : Osz U p l := by
  intro i hi
  obtain ⟨g, off, cur, rfl, _, hr, hc⟩ := h.at' (fun e => by rw [e] at hi; simp at hi)
  exact ⟨g, off, rfl, row_lt hr, fun j hj => by rw [row_cell hr]; exact hc i hi j hj⟩
theorem Sd.same {U V : World} {F : Nat → Prop} {p : Option Addr} {c : Nat} {l : List Or} (h : Sd U F p c l) (hs : ∀ g cur, F g → U.heap[g]? = some (.cells cur 50 (0, 0)) → V.heap[g]? = some (.cells cur 50 (0, 0))) : Sd V F p c l :=
  ⟨h.le, h.mx, fun hn => by
    obtain ⟨g, off, cur, e, hf, hr, hc⟩ := h.at' hn
    exact ⟨g, off, cur, e, hf, hs g cur hf hr, hc⟩⟩
theorem Sd.on {U V : World} {F : Nat → Prop} {p : Option Addr} {c : Nat} {l : List Or} (h : Sd U F p c l) (hb : Below U.heap.size U V) : Sd V F p c l := h.same (fun g cur _ hr => row_on hr hb)
theorem Sd.of_own {U : World} {F : Nat → Prop} {base : Nat} {p : Option Addr} {c : Nat} {l : List Or} (h : U.ownsRow base 50 7 (.slice p l.length c) l.length (ors l)) (hF : ∀ g, (Value.slice p l.length c).ownBlock = some g → F g) : Sd U F p c l := by
  obtain ⟨h1, ⟨e, e2⟩ | ⟨g, c', cur, e, r1, r2, r3, r4, r5, r6⟩⟩ := h
  · obtain ⟨rfl, e3, rfl⟩ := Value.slice.inj e
    refine ⟨by omega, by unfold maxLen; omega, fun hn => ?_⟩
    exact absurd (List.eq_nil_of_length_eq_zero e3) hn
  · obtain ⟨rfl, _, rfl⟩ := Value.slice.inj e
    refine ⟨r3, r4, fun _ => ⟨g, 0, cur, rfl, hF g rfl, r2, fun i hi j hj => ?_⟩⟩
    have := congrArg (fun z => z[i * 7 + j]?) r6
    have hlt : i * 7 + j < l.length * 7 := by omega
    simp only [List.getElem?_take, hlt, if_true, Array.getElem?_toList] at this
    rw [Nat.zero_add, this, ors_get hi hj]
theorem Sd.of5 {U : World} {F : Nat → Prop} {base n : Nat} {p : Option Addr} {c : Nat} {l : List Or} (h : U.ownsRow base 50 7 (.slice p n c) n (ors l)) (hn : n = l.length) (hF : ∀ g, base ≤ g → F g) : Sd U F p c l := by
  subst hn
  exact Sd.of_own h (fun g hg => hF g (h.lt g hg).1)
theorem Sd.head {U : World} {F : Nat → Prop} {p : Option Addr} {c : Nat} {y : Or} {r : List Or} (h : Sd U F p c (y :: r)) : ∃ g off cur, p = some ⟨g, off, none⟩ ∧ F g ∧ U.heap[g]? = some (.cells cur 50 (0, 0)) ∧ U.cell? ⟨g, off, none⟩ = some (.int .u64 y.id) ∧ U.cell? ⟨g, off + 1, none⟩ = some (.int .u32 y.mb) ∧ U.cell? ⟨g, off + 2, none⟩ = some (.int .i64 y.ty) ∧ U.cell? ⟨g, off + 3, none⟩ = some (.int .i64 y.pr) ∧ U.cell? ⟨g, off + 4, none⟩ = some (.int .u64 y.vi) ∧ U.cell? ⟨g, off + 5, none⟩ = some (.int .u64 y.hi) ∧ U.cell? ⟨g, off + 6, none⟩ = some (.int .u64 y.pk) ∧ U.frozen? ⟨g, off + 4, none⟩ = false := by
  obtain ⟨g, off, cur, rfl, hf, hr, hc⟩ := h.at' (by simp)
  have a := fun j hj => (row_cell hr (off + 0 * 7 + j)).trans (hc 0 (by simp) j hj)
  simp only [Nat.zero_mul, Nat.add_zero] at a
  exact ⟨g, off, cur, rfl, hf, hr, a 0 (by omega), a 1 (by omega), a 2 (by omega), a 3 (by omega), a 4 (by omega), a 5 (by omega), a 6 (by omega), row_frz hr _⟩
theorem Sd.tail {U : World} {F : Nat → Prop} {g off c : Nat} {y : Or} {r : List Or} (h : Sd U F (some ⟨g, off, none⟩) c (y :: r)) {p : Option Addr} (hp : r ≠ [] → p = some ⟨g, off + 7, none⟩) : Sd U F p (c - 1) r := by
  have hl := h.le
  have hm := h.mx
  simp only [List.length_cons] at hl
  refine ⟨by omega, by omega, fun hn => ?_⟩
  obtain ⟨g', off', cur, e, hf, hr, hc⟩ := h.at' (by simp)
  injection e with e
  injection e with e1 e2
  subst e1
  subst e2
  refine ⟨g, off + 7, cur, hp hn, hf, hr, fun i hi j hj => ?_⟩
  have := hc (i + 1) (by simp; omega) j hj
  rw [show off + (i + 1) * 7 + j = off + 7 + i * 7 + j by omega] at this
  exact this
theorem Sd.tail1 {U : World} {F : Nat → Prop} {g off : Nat} {y : Or} {r : List Or} (h : Sd U F (some ⟨g, off, none⟩) 1 (y :: r)) {p : Option Addr} : Sd U F p 0 r := by
  have hl := h.le
  simp only [List.length_cons] at hl
  have e : r = [] := List.eq_nil_of_length_eq_zero (by omega)
  subst e
  exact ⟨Nat.le_refl _, by unfold maxLen; omega, fun hn => absurd rfl hn⟩
theorem Sd.set {U : World} {F : Nat → Prop} {g off c : Nat} {y : Or} {r : List Or} (h : Sd U F (some ⟨g, off, none⟩) c (y :: r)) (v : Int) : Sd (U.setCell ⟨g, off + 4, none⟩ (.int .u64 v)) F (some ⟨g, off, none⟩) c ({ y with vi := v } :: r) := by
  refine ⟨h.le, h.mx, fun _ => ?_⟩
  obtain ⟨g', off', cur, e, hf, hr, hc⟩ := h.at' (by simp)
  injection e with e
  injection e with e1 e2
  subst e1
  subst e2
  refine ⟨g, off, _, rfl, hf, set_row _ hr, fun i hi j hj => ?_⟩
  rw [Array.getElem?_setIfInBounds]
  have hc0 := hc 0 (by simp) 4 (by omega)
  have hlt : off + 4 < cur.size := by
    cases hh : cur[off + 4]? with
    | none => rw [show off + 0 * 7 + 4 = off + 4 by omega, hh] at hc0; cases hc0
    | some z => exact (Array.getElem?_eq_some_iff.1 hh).1
  by_cases hi0 : i = 0
  · subst hi0
    by_cases hj4 : j = 4
    · subst hj4
      rw [if_pos (by omega), if_pos hlt]
      rfl
    · rw [if_neg (by omega), hc 0 (by simp) j hj]
      simp only [List.getElem_cons_zero]
      have : j = 0 ∨ j = 1 ∨ j = 2 ∨ j = 3 ∨ j = 5 ∨ j = 6 := by omega
      rcases this with rfl | rfl | rfl | rfl | rfl | rfl <;> rfl
  · obtain ⟨k, rfl⟩ : ∃ k, i = k + 1 := ⟨i - 1, by omega⟩
    rw [if_neg (by omega)]
    exact hc (k + 1) (by simpa using hi) j hj
theorem osz_nil (U : World) (p : Option Addr) {r : List Or} (h : r = []) : Osz U p r := by
  subst h
  intro i hi
  simp at hi
theorem osz_on {U V : World} {p : Option Addr} {r : List Or} (h : Osz U p r) (hb : Below U.heap.size U V) : Osz V p r := by
  intro i hi
  obtain ⟨b, off, e, hl, hc⟩ := h i hi
  exact ⟨b, off, e, Nat.lt_of_lt_of_le hl hb.size, fun j hj => (hb.cell (p := ⟨b, off + i * 7 + j, none⟩) hl).trans (hc j hj)⟩
theorem Sd.less0 {U : World} {F : Nat → Prop} {p : Option Addr} {c : Nat} {y : Or} {r : List Or} (h : Sd U F p c ({ y with vi := 0 } :: r)) : Sd U F p c (y.less y.vi :: r) := by
  have e : y.less y.vi = { y with vi := 0 } := by simp [Or.less]
  rw [e]
  exact h
theorem nx_of {U : World} {ge q3 : Nat} {es : List Ev} (h : U.ownsRow 0 58 13 (.slice (some ⟨ge, 0, none⟩) es.length q3) es.length (evs es)) {j : Nat} {e' : Ev} {es' : List Ev} (hd : es.drop (j + 1) = e' :: es') : j + 1 < es.length ∧ U.cell? ⟨ge, (j + 1) * 13 + 1, none⟩ = some (.int .i64 e'.kd) := by
  have hl : j + 1 < es.length := by
    rcases Nat.lt_or_ge (j + 1) es.length with h | h
    · exact h
    · rw [List.drop_eq_nil_of_le h] at hd; cases hd
  have e := List.drop_eq_getElem_cons hl
  rw [hd] at e
  injection e with e1 _
  obtain ⟨g, c, hp, _, _, hc⟩ := ev_cells h hl
  have h1 := (Value.slice.inj hp).1
  injection h1 with h1
  injection h1 with h1
  subst h1
  refine ⟨hl, ?_⟩
  rw [hc 1 (by decide), e1]
  rfl
/-- no event. -/
def ez : Ev := ⟨0, 0, 0, 0, 0, 0, 0, 0, 0, 0, 0, 0, 0⟩
/-- what the law holds of the events so far. -/
def Hl (b : Bs) (A : Nat) (F : Nat → Prop) (v1 v2 : Value) (U : World) (left : Int) (p : Option Addr) (n c : Nat) (es : List Ev) : Prop :=
  (U.ownsRow 0 50 7 v1 b.l1.length (ors (osl b.l1)) ∧ U.ownsRow 0 50 7 v2 b.l2.length (ors (osl b.l2)) ∧ U.heap[A]? = some (.cells (ecs ez).toArray 58 (0, 0)) ∧ P0 b es) ∨
  (∃ a l, n = l.length ∧ (a.sd = 1 ∨ a.sd = 2) ∧ U.heap[A]? = some (.cells (ecs a).toArray 58 (0, 0)) ∧ Sd U F p c l ∧ Pr a left l es)
theorem Hl.on {b : Bs} {A : Nat} {F : Nat → Prop} {v1 v2 : Value} {U V : World} {left : Int} {p : Option Addr} {n c : Nat} {es : List Ev} (h : Hl b A F v1 v2 U left p n c es) (hb : Below U.heap.size U V) : Hl b A F v1 v2 V left p n c es := by
  rcases h with ⟨h1, h2, h3, h4⟩ | ⟨a, l, h1, h2, h3, h4, h5⟩
  · exact .inl ⟨own_on h1 hb, own_on h2 hb, row_on h3 hb, h4⟩
  · exact .inr ⟨a, l, h1, h2, row_on h3 hb, h4.on hb, h5⟩
theorem ev_row {U : World} {A : Nat} {a : Ev} (h : U.heap[A]? = some (.cells (ecs a).toArray 58 (0, 0))) : U.cell? ⟨A, 0, none⟩ = some (.int .u64 a.sq) ∧ U.cell? ⟨A, 1, none⟩ = some (.int .i64 a.kd) ∧ U.cell? ⟨A, 2, none⟩ = some (.int .u64 a.id) ∧ U.cell? ⟨A, 3, none⟩ = some (.int .u64 a.ot) ∧ U.cell? ⟨A, 4, none⟩ = some (.int .u64 a.tg) ∧ U.cell? ⟨A, 5, none⟩ = some (.int .u32 a.mb) ∧ U.cell? ⟨A, 6, none⟩ = some (.int .i64 a.sd) ∧ U.cell? ⟨A, 7, none⟩ = some (.int .i64 a.ty) ∧ U.cell? ⟨A, 8, none⟩ = some (.int .i64 a.pr) ∧ U.cell? ⟨A, 9, none⟩ = some (.int .u64 a.qt) ∧ U.cell? ⟨A, 10, none⟩ = some (.int .u64 a.pk) ∧ U.cell? ⟨A, 11, none⟩ = some (.int .i64 a.rs) ∧ U.cell? ⟨A, 12, none⟩ = some (.int .i64 a.cd) := by
  have a0 := row_cell h 0
  have a1 := row_cell h 1
  have a2 := row_cell h 2
  have a3 := row_cell h 3
  have a4 := row_cell h 4
  have a5 := row_cell h 5
  have a6 := row_cell h 6
  have a7 := row_cell h 7
  have a8 := row_cell h 8
  have a9 := row_cell h 9
  have a10 := row_cell h 10
  have a11 := row_cell h 11
  have a12 := row_cell h 12
  simp only [ecs, List.getElem?_toArray, List.getElem?_cons_succ, List.getElem?_cons_zero] at a0 a1 a2 a3 a4 a5 a6 a7 a8 a9 a10 a11 a12
  exact ⟨a0, a1, a2, a3, a4, a5, a6, a7, a8, a9, a10, a11, a12⟩
end

section
open Go.RowKit Go.Deep Go.Shelf
set_option linter.unusedVariables false
set_option linter.unusedSimpArgs false
set_option maxHeartbeats 8000000
set_option maxRecDepth 100000
attribute [local go_sem ↓] Go.wp_at_zero Go.wp_at_succ
/-- a block of the code. -/
def blk (n : Nat) : Code → Option Code
  | .block k c => if k = n then some (.block k c) else blk n c
  | .seq a b => (blk n a).or (blk n b)
  | .loop c => blk n c
  | .scope c => blk n c
  | .cond _ a b => (blk n a).or (blk n b)
  | _ => none
/-- what lies there when an event is looked at. -/
structure Sw (V U : World) (A E X ge m j : Nat) (F : Nat → Prop) (b : Bs) (x1 x2 : Option Addr) (y1 y2 : Nat) (e : Ev) (es : List Ev) : Prop where
  kp : Kp (fun j => j = A ∨ F j) V U
  ex : U.heap[E]? = some (.cells (ecs e).toArray 58 (0, 0))
  bx : U.heap[X]? = some (.cells (bkv b (.slice x1 b.l1.length y1) (.slice x2 b.l2.length y2)) 32 (0, 0))
  ve : V.heap.size ≤ E
  av : A < V.heap.size
  fa : ∀ g, F g → g ≠ A
  fn : ∀ g, V.heap.size ≤ g → F g
  f1 : ∀ g, (Value.slice x1 b.l1.length y1).ownBlock = some g → F g
  f2 : ∀ g, (Value.slice x2 b.l2.length y2).ownBlock = some g → F g
  jm : j < m
  mx : m < 9223372036854775808
  gr : ∃ cur, U.heap[ge]? = some (.cells cur 58 (0, 0))
  nx : ∀ e' es', es = e' :: es' → j + 1 < m ∧ U.cell? ⟨ge, (j + 1) * 13 + 1, none⟩ = some (.int .i64 e'.kd)
theorem sw_skip {V U : World} {A E X ge m q3 j : Nat} {F : Nat → Prop} {b : Bs} {x1 x2 : Option Addr} {y1 y2 : Nat} {left : Int} {p : Option Addr} {n c : Nat} {e : Ev} {es : List Ev} (s : Sw V U A E X ge m j F b x1 x2 y1 y2 e es) (h : Hl b A F (.slice x1 b.l1.length y1) (.slice x2 b.l2.length y2) U left p n c es) (kd : e.kd = 2) {cd : Code} (hc : (Try.f7.body.bind (blk 4)) = some cd) (u0 u1 u2 u3 u4 u5 u6 u7 u15 u16 u17 u18 u19 u20 u21 u22 u23 u24 u25 u26 u27 u28 u29 u30 u31 u32 u33 u34 u35 u36 u37 u38 u39 u40 u41 u42 u43 u44 u45 u46 u47 u48 u49 u50 u51 u52 u53 u54 u55 u57 u58 u59 u60 u61 u62 u63 u64 u65 u66 u67 u68 u69 u70 u71 u72 u73 u74 u75 u76 u77 u78 u79 u80 u81 u82 u83 u84 u85 u86 u87 u88 u89 u90 u91 u92 u93 u94 u95 u96 u97 u98 u99 u100 u101 u102 u103 u104 u105 u106 u107 u108 u109 u110 u111 u112 u113 u114 u115 u116 u117 u118 u119 u120 u121 u122 u123 u124 u125 u126 u127 u128 u129 u130 u131 u132 u133 u134 u135 u136 u137 u138 u139 u140 u141 u142 u143 u144 u145 u146 u147 u148 u149 u150 u151 u152 u153 u154 u155 u156 u157 u158 u159 u160 u161 u162 u163 u164 u165 u166 u167 u168 u169 u170 u171 u172 u173 u174 u175 u176 u177 u178 u179 u180 u181 u182 u183 u184 u185 u186 u187 u188 u189 u190 u191 u192 u193 u194 u195 u196 u197 u198 u199 u200 u201 u202 u203 u204 u205 u206 u207 u208 u209 u210 u211 u212 u213 u214 u215 u216 u217 u218 u219 u220 u221 u222 u223 u224 u225 u226 u227 u228 u229 u230 u231 u232 u233 u234 u235 u236 u237 u238 u239 u240 u241 u242 u243 u244 u245 u246 u247 u248 u249 u250 u251 u252 u253 u254 u255 u256 u257 u258 u259 u260 u261 u262 u263 u264 u265 u266 u267 u268 u269 u270 u271 u272 u273 u274 u275 u276 u277 u278 u279 u280 u281 u282 u283 u284 u285 u286 u287 u288 u289 u290 u291 u292 u293 u294 u295 u296 u297 u298 u299 u300 u301 u302 u303 u304 u305 u306 u307 u308 u309 u310 u311 u312 u313 u314 u315 u316 u317 u318 u319 : Value)
    {Q : Exit → Act → World → Prop} (hQ : ∀ (left2 : Int) (p2 : Option Addr) (n2 c2 : Nat) (U2 : World) (v15 v16 v57 v58 v59 v60 v61 v62 v63 v64 v65 v66 v67 v68 v69 v70 v71 v72 v73 v74 v75 v76 v77 v78 v79 v80 v81 v82 v83 v84 v85 v86 v87 v88 v89 v90 v91 v92 v93 v94 v95 v96 v97 v98 v99 v100 v101 v102 v103 v104 v105 v106 v107 v108 v109 v110 v111 v112 v113 v114 v115 v116 v117 v118 v119 v120 v121 v122 v123 v124 v125 v126 v127 v128 v129 v130 v131 v132 v133 v134 v135 v136 v137 v138 v139 v140 v141 v142 v143 v144 v145 v146 v147 v148 v149 v150 v151 v152 v153 v154 v155 v156 v157 v158 v159 v160 v161 v162 v163 v164 v165 v166 v167 v168 v169 v170 v171 v172 v173 v174 v175 v176 v177 v178 v179 v180 v181 v182 v183 v184 v185 v186 v187 v188 v189 v190 v191 v192 v193 v194 v195 v196 v197 v198 v199 v200 v201 v202 v203 v204 v205 v206 v207 v208 v209 v210 v211 v212 v213 v214 v215 v216 v217 v218 v219 v220 v221 v222 v223 v224 v225 v226 v227 v228 v229 v230 v231 v232 v233 v234 v235 v236 v237 v238 v239 v240 v241 v242 v243 v244 v245 v246 v247 v248 v249 v250 v251 v252 v253 v254 v255 v256 v257 v258 v259 v260 v261 v262 v263 v264 v265 v266 v267 v268 v269 v270 v271 v272 v273 v274 v275 v276 v277 v278 v279 v280 v281 v282 v283 v284 v285 v286 v287 v288 v289 v290 v291 v292 v293 v294 v295 v296 v297 v298 v299 v300 v301 v302 v303 v304 v305 v306 v307 v308 v309 v310 v311 v312 v313 v314 v315 v316 v317 v318 v319 : Value), Kp (fun j => j = A ∨ F j) V U2 → Hl b A F (.slice x1 b.l1.length y1) (.slice x2 b.l2.length y2) U2 left2 p2 n2 c2 es → Q .normal { tmps := #[u0, u1, u2, u3, u4, u5, u6, u7, .pointer (some ⟨X, 0, none⟩), .slice (some ⟨ge, 0, none⟩) m q3, .pointer (some ⟨A, 0, none⟩), .int .u64 left2, .slice p2 n2 c2, .int .i64 (j : Int), .pointer (some ⟨E, 0, none⟩), v15, v16, u17, u18, u19, u20, u21, u22, u23, u24, u25, u26, u27, u28, u29, u30, u31, u32, u33, u34, u35, u36, u37, u38, u39, u40, u41, u42, u43, u44, u45, u46, u47, u48, u49, u50, u51, u52, u53, u54, u55, .int .i64 e.kd, v57, v58, v59, v60, v61, v62, v63, v64, v65, v66, v67, v68, v69, v70, v71, v72, v73, v74, v75, v76, v77, v78, v79, v80, v81, v82, v83, v84, v85, v86, v87, v88, v89, v90, v91, v92, v93, v94, v95, v96, v97, v98, v99, v100, v101, v102, v103, v104, v105, v106, v107, v108, v109, v110, v111, v112, v113, v114, v115, v116, v117, v118, v119, v120, v121, v122, v123, v124, v125, v126, v127, v128, v129, v130, v131, v132, v133, v134, v135, v136, v137, v138, v139, v140, v141, v142, v143, v144, v145, v146, v147, v148, v149, v150, v151, v152, v153, v154, v155, v156, v157, v158, v159, v160, v161, v162, v163, v164, v165, v166, v167, v168, v169, v170, v171, v172, v173, v174, v175, v176, v177, v178, v179, v180, v181, v182, v183, v184, v185, v186, v187, v188, v189, v190, v191, v192, v193, v194, v195, v196, v197, v198, v199, v200, v201, v202, v203, v204, v205, v206, v207, v208, v209, v210, v211, v212, v213, v214, v215, v216, v217, v218, v219, v220, v221, v222, v223, v224, v225, v226, v227, v228, v229, v230, v231, v232, v233, v234, v235, v236, v237, v238, v239, v240, v241, v242, v243, v244, v245, v246, v247, v248, v249, v250, v251, v252, v253, v254, v255, v256, v257, v258, v259, v260, v261, v262, v263, v264, v265, v266, v267, v268, v269, v270, v271, v272, v273, v274, v275, v276, v277, v278, v279, v280, v281, v282, v283, v284, v285, v286, v287, v288, v289, v290, v291, v292, v293, v294, v295, v296, v297, v298, v299, v300, v301, v302, v303, v304, v305, v306, v307, v308, v309, v310, v311, v312, v313, v314, v315, v316, v317, v318, v319], defers := [] } U2) :
    cd.wp Try.prog Q { tmps := #[u0, u1, u2, u3, u4, u5, u6, u7, .pointer (some ⟨X, 0, none⟩), .slice (some ⟨ge, 0, none⟩) m q3, .pointer (some ⟨A, 0, none⟩), .int .u64 left, .slice p n c, .int .i64 (j : Int), .pointer (some ⟨E, 0, none⟩), u15, u16, u17, u18, u19, u20, u21, u22, u23, u24, u25, u26, u27, u28, u29, u30, u31, u32, u33, u34, u35, u36, u37, u38, u39, u40, u41, u42, u43, u44, u45, u46, u47, u48, u49, u50, u51, u52, u53, u54, u55, .int .i64 e.kd, u57, u58, u59, u60, u61, u62, u63, u64, u65, u66, u67, u68, u69, u70, u71, u72, u73, u74, u75, u76, u77, u78, u79, u80, u81, u82, u83, u84, u85, u86, u87, u88, u89, u90, u91, u92, u93, u94, u95, u96, u97, u98, u99, u100, u101, u102, u103, u104, u105, u106, u107, u108, u109, u110, u111, u112, u113, u114, u115, u116, u117, u118, u119, u120, u121, u122, u123, u124, u125, u126, u127, u128, u129, u130, u131, u132, u133, u134, u135, u136, u137, u138, u139, u140, u141, u142, u143, u144, u145, u146, u147, u148, u149, u150, u151, u152, u153, u154, u155, u156, u157, u158, u159, u160, u161, u162, u163, u164, u165, u166, u167, u168, u169, u170, u171, u172, u173, u174, u175, u176, u177, u178, u179, u180, u181, u182, u183, u184, u185, u186, u187, u188, u189, u190, u191, u192, u193, u194, u195, u196, u197, u198, u199, u200, u201, u202, u203, u204, u205, u206, u207, u208, u209, u210, u211, u212, u213, u214, u215, u216, u217, u218, u219, u220, u221, u222, u223, u224, u225, u226, u227, u228, u229, u230, u231, u232, u233, u234, u235, u236, u237, u238, u239, u240, u241, u242, u243, u244, u245, u246, u247, u248, u249, u250, u251, u252, u253, u254, u255, u256, u257, u258, u259, u260, u261, u262, u263, u264, u265, u266, u267, u268, u269, u270, u271, u272, u273, u274, u275, u276, u277, u278, u279, u280, u281, u282, u283, u284, u285, u286, u287, u288, u289, u290, u291, u292, u293, u294, u295, u296, u297, u298, u299, u300, u301, u302, u303, u304, u305, u306, u307, u308, u309, u310, u311, u312, u313, u314, u315, u316, u317, u318, u319], defers := [] } U := by
  simp only [Try.f7, blk, Option.bind, Option.or, Nat.reduceEqDiff, reduceCtorEq, if_false, if_true, reduceIte] at hc
  injection hc with hc
  subst hc
  have HQ := hid hQ
  clear hQ
  obtain ⟨e0, e1, e2, e3, e4, e5, e6, e7, e8, e9, e10, e11, e12⟩ := ev_row s.ex
  rw [kd] at e1 HQ ⊢
  have HH := hid h
  have HS := hid s
  clear h s kd
  go_wp2
  exact HQ.out left p n c U _ _ _ _ _ _ _ _ _ _ _ _ _ _ _ _ _ _ _ _ _ _ _ _ _ _ _ _ _ _ _ _ _ _ _ _ _ _ _ _ _ _ _ _ _ _ _ _ _ _ _ _ _ _ _ _ _ _ _ _ _ _ _ _ _ _ _ _ _ _ _ _ _ _ _ _ _ _ _ _ _ _ _ _ _ _ _ _ _ _ _ _ _ _ _ _ _ _ _ _ _ _ _ _ _ _ _ _ _ _ _ _ _ _ _ _ _ _ _ _ _ _ _ _ _ _ _ _ _ _ _ _ _ _ _ _ _ _ _ _ _ _ _ _ _ _ _ _ _ _ _ _ _ _ _ _ _ _ _ _ _ _ _ _ _ _ _ _ _ _ _ _ _ _ _ _ _ _ _ _ _ _ _ _ _ _ _ _ _ _ _ _ _ _ _ _ _ _ _ _ _ _ _ _ _ _ _ _ _ _ _ _ _ _ _ _ _ _ _ _ _ _ _ _ _ _ _ _ _ _ _ _ _ _ _ _ _ _ _ _ _ _ _ _ _ _ _ _ _ _ _ _ _ _ _ _ _ _ _ _ _ _ _ _ _ HS.out.kp HH.out
theorem sw_can {V U : World} {A E X ge m q3 j : Nat} {F : Nat → Prop} {b : Bs} {x1 x2 : Option Addr} {y1 y2 : Nat} {left : Int} {p : Option Addr} {n c : Nat} {e : Ev} {es : List Ev} (s : Sw V U A E X ge m j F b x1 x2 y1 y2 e es) (h : Hl b A F (.slice x1 b.l1.length y1) (.slice x2 b.l2.length y2) U left p n c es) (kd : e.kd = 4) (krs : e.rs ≠ 5) {cd : Code} (hc : (Try.f7.body.bind (blk 4)) = some cd) (u0 u1 u2 u3 u4 u5 u6 u7 u15 u16 u17 u18 u19 u20 u21 u22 u23 u24 u25 u26 u27 u28 u29 u30 u31 u32 u33 u34 u35 u36 u37 u38 u39 u40 u41 u42 u43 u44 u45 u46 u47 u48 u49 u50 u51 u52 u53 u54 u55 u57 u58 u59 u60 u61 u62 u63 u64 u65 u66 u67 u68 u69 u70 u71 u72 u73 u74 u75 u76 u77 u78 u79 u80 u81 u82 u83 u84 u85 u86 u87 u88 u89 u90 u91 u92 u93 u94 u95 u96 u97 u98 u99 u100 u101 u102 u103 u104 u105 u106 u107 u108 u109 u110 u111 u112 u113 u114 u115 u116 u117 u118 u119 u120 u121 u122 u123 u124 u125 u126 u127 u128 u129 u130 u131 u132 u133 u134 u135 u136 u137 u138 u139 u140 u141 u142 u143 u144 u145 u146 u147 u148 u149 u150 u151 u152 u153 u154 u155 u156 u157 u158 u159 u160 u161 u162 u163 u164 u165 u166 u167 u168 u169 u170 u171 u172 u173 u174 u175 u176 u177 u178 u179 u180 u181 u182 u183 u184 u185 u186 u187 u188 u189 u190 u191 u192 u193 u194 u195 u196 u197 u198 u199 u200 u201 u202 u203 u204 u205 u206 u207 u208 u209 u210 u211 u212 u213 u214 u215 u216 u217 u218 u219 u220 u221 u222 u223 u224 u225 u226 u227 u228 u229 u230 u231 u232 u233 u234 u235 u236 u237 u238 u239 u240 u241 u242 u243 u244 u245 u246 u247 u248 u249 u250 u251 u252 u253 u254 u255 u256 u257 u258 u259 u260 u261 u262 u263 u264 u265 u266 u267 u268 u269 u270 u271 u272 u273 u274 u275 u276 u277 u278 u279 u280 u281 u282 u283 u284 u285 u286 u287 u288 u289 u290 u291 u292 u293 u294 u295 u296 u297 u298 u299 u300 u301 u302 u303 u304 u305 u306 u307 u308 u309 u310 u311 u312 u313 u314 u315 u316 u317 u318 u319 : Value)
    {Q : Exit → Act → World → Prop} (hQ : ∀ (left2 : Int) (p2 : Option Addr) (n2 c2 : Nat) (U2 : World) (v15 v16 v57 v58 v59 v60 v61 v62 v63 v64 v65 v66 v67 v68 v69 v70 v71 v72 v73 v74 v75 v76 v77 v78 v79 v80 v81 v82 v83 v84 v85 v86 v87 v88 v89 v90 v91 v92 v93 v94 v95 v96 v97 v98 v99 v100 v101 v102 v103 v104 v105 v106 v107 v108 v109 v110 v111 v112 v113 v114 v115 v116 v117 v118 v119 v120 v121 v122 v123 v124 v125 v126 v127 v128 v129 v130 v131 v132 v133 v134 v135 v136 v137 v138 v139 v140 v141 v142 v143 v144 v145 v146 v147 v148 v149 v150 v151 v152 v153 v154 v155 v156 v157 v158 v159 v160 v161 v162 v163 v164 v165 v166 v167 v168 v169 v170 v171 v172 v173 v174 v175 v176 v177 v178 v179 v180 v181 v182 v183 v184 v185 v186 v187 v188 v189 v190 v191 v192 v193 v194 v195 v196 v197 v198 v199 v200 v201 v202 v203 v204 v205 v206 v207 v208 v209 v210 v211 v212 v213 v214 v215 v216 v217 v218 v219 v220 v221 v222 v223 v224 v225 v226 v227 v228 v229 v230 v231 v232 v233 v234 v235 v236 v237 v238 v239 v240 v241 v242 v243 v244 v245 v246 v247 v248 v249 v250 v251 v252 v253 v254 v255 v256 v257 v258 v259 v260 v261 v262 v263 v264 v265 v266 v267 v268 v269 v270 v271 v272 v273 v274 v275 v276 v277 v278 v279 v280 v281 v282 v283 v284 v285 v286 v287 v288 v289 v290 v291 v292 v293 v294 v295 v296 v297 v298 v299 v300 v301 v302 v303 v304 v305 v306 v307 v308 v309 v310 v311 v312 v313 v314 v315 v316 v317 v318 v319 : Value), Kp (fun j => j = A ∨ F j) V U2 → Hl b A F (.slice x1 b.l1.length y1) (.slice x2 b.l2.length y2) U2 left2 p2 n2 c2 es → Q .normal { tmps := #[u0, u1, u2, u3, u4, u5, u6, u7, .pointer (some ⟨X, 0, none⟩), .slice (some ⟨ge, 0, none⟩) m q3, .pointer (some ⟨A, 0, none⟩), .int .u64 left2, .slice p2 n2 c2, .int .i64 (j : Int), .pointer (some ⟨E, 0, none⟩), v15, v16, u17, u18, u19, u20, u21, u22, u23, u24, u25, u26, u27, u28, u29, u30, u31, u32, u33, u34, u35, u36, u37, u38, u39, u40, u41, u42, u43, u44, u45, u46, u47, u48, u49, u50, u51, u52, u53, u54, u55, .int .i64 e.kd, v57, v58, v59, v60, v61, v62, v63, v64, v65, v66, v67, v68, v69, v70, v71, v72, v73, v74, v75, v76, v77, v78, v79, v80, v81, v82, v83, v84, v85, v86, v87, v88, v89, v90, v91, v92, v93, v94, v95, v96, v97, v98, v99, v100, v101, v102, v103, v104, v105, v106, v107, v108, v109, v110, v111, v112, v113, v114, v115, v116, v117, v118, v119, v120, v121, v122, v123, v124, v125, v126, v127, v128, v129, v130, v131, v132, v133, v134, v135, v136, v137, v138, v139, v140, v141, v142, v143, v144, v145, v146, v147, v148, v149, v150, v151, v152, v153, v154, v155, v156, v157, v158, v159, v160, v161, v162, v163, v164, v165, v166, v167, v168, v169, v170, v171, v172, v173, v174, v175, v176, v177, v178, v179, v180, v181, v182, v183, v184, v185, v186, v187, v188, v189, v190, v191, v192, v193, v194, v195, v196, v197, v198, v199, v200, v201, v202, v203, v204, v205, v206, v207, v208, v209, v210, v211, v212, v213, v214, v215, v216, v217, v218, v219, v220, v221, v222, v223, v224, v225, v226, v227, v228, v229, v230, v231, v232, v233, v234, v235, v236, v237, v238, v239, v240, v241, v242, v243, v244, v245, v246, v247, v248, v249, v250, v251, v252, v253, v254, v255, v256, v257, v258, v259, v260, v261, v262, v263, v264, v265, v266, v267, v268, v269, v270, v271, v272, v273, v274, v275, v276, v277, v278, v279, v280, v281, v282, v283, v284, v285, v286, v287, v288, v289, v290, v291, v292, v293, v294, v295, v296, v297, v298, v299, v300, v301, v302, v303, v304, v305, v306, v307, v308, v309, v310, v311, v312, v313, v314, v315, v316, v317, v318, v319], defers := [] } U2) :
    cd.wp Try.prog Q { tmps := #[u0, u1, u2, u3, u4, u5, u6, u7, .pointer (some ⟨X, 0, none⟩), .slice (some ⟨ge, 0, none⟩) m q3, .pointer (some ⟨A, 0, none⟩), .int .u64 left, .slice p n c, .int .i64 (j : Int), .pointer (some ⟨E, 0, none⟩), u15, u16, u17, u18, u19, u20, u21, u22, u23, u24, u25, u26, u27, u28, u29, u30, u31, u32, u33, u34, u35, u36, u37, u38, u39, u40, u41, u42, u43, u44, u45, u46, u47, u48, u49, u50, u51, u52, u53, u54, u55, .int .i64 e.kd, u57, u58, u59, u60, u61, u62, u63, u64, u65, u66, u67, u68, u69, u70, u71, u72, u73, u74, u75, u76, u77, u78, u79, u80, u81, u82, u83, u84, u85, u86, u87, u88, u89, u90, u91, u92, u93, u94, u95, u96, u97, u98, u99, u100, u101, u102, u103, u104, u105, u106, u107, u108, u109, u110, u111, u112, u113, u114, u115, u116, u117, u118, u119, u120, u121, u122, u123, u124, u125, u126, u127, u128, u129, u130, u131, u132, u133, u134, u135, u136, u137, u138, u139, u140, u141, u142, u143, u144, u145, u146, u147, u148, u149, u150, u151, u152, u153, u154, u155, u156, u157, u158, u159, u160, u161, u162, u163, u164, u165, u166, u167, u168, u169, u170, u171, u172, u173, u174, u175, u176, u177, u178, u179, u180, u181, u182, u183, u184, u185, u186, u187, u188, u189, u190, u191, u192, u193, u194, u195, u196, u197, u198, u199, u200, u201, u202, u203, u204, u205, u206, u207, u208, u209, u210, u211, u212, u213, u214, u215, u216, u217, u218, u219, u220, u221, u222, u223, u224, u225, u226, u227, u228, u229, u230, u231, u232, u233, u234, u235, u236, u237, u238, u239, u240, u241, u242, u243, u244, u245, u246, u247, u248, u249, u250, u251, u252, u253, u254, u255, u256, u257, u258, u259, u260, u261, u262, u263, u264, u265, u266, u267, u268, u269, u270, u271, u272, u273, u274, u275, u276, u277, u278, u279, u280, u281, u282, u283, u284, u285, u286, u287, u288, u289, u290, u291, u292, u293, u294, u295, u296, u297, u298, u299, u300, u301, u302, u303, u304, u305, u306, u307, u308, u309, u310, u311, u312, u313, u314, u315, u316, u317, u318, u319], defers := [] } U := by
  simp only [Try.f7, blk, Option.bind, Option.or, Nat.reduceEqDiff, reduceCtorEq, if_false, if_true, reduceIte] at hc
  injection hc with hc
  subst hc
  have HQ := hid hQ
  clear hQ
  obtain ⟨e0, e1, e2, e3, e4, e5, e6, e7, e8, e9, e10, e11, e12⟩ := ev_row s.ex
  rw [kd] at e1 HQ ⊢
  have krs' : (e.rs == 5) = false := by rw [beq_eq_false_iff_ne]; exact krs
  have HH := hid h
  have HS := hid s
  clear h s kd krs
  go_wp2
  exact HQ.out left p n c U _ _ _ _ _ _ _ _ _ _ _ _ _ _ _ _ _ _ _ _ _ _ _ _ _ _ _ _ _ _ _ _ _ _ _ _ _ _ _ _ _ _ _ _ _ _ _ _ _ _ _ _ _ _ _ _ _ _ _ _ _ _ _ _ _ _ _ _ _ _ _ _ _ _ _ _ _ _ _ _ _ _ _ _ _ _ _ _ _ _ _ _ _ _ _ _ _ _ _ _ _ _ _ _ _ _ _ _ _ _ _ _ _ _ _ _ _ _ _ _ _ _ _ _ _ _ _ _ _ _ _ _ _ _ _ _ _ _ _ _ _ _ _ _ _ _ _ _ _ _ _ _ _ _ _ _ _ _ _ _ _ _ _ _ _ _ _ _ _ _ _ _ _ _ _ _ _ _ _ _ _ _ _ _ _ _ _ _ _ _ _ _ _ _ _ _ _ _ _ _ _ _ _ _ _ _ _ _ _ _ _ _ _ _ _ _ _ _ _ _ _ _ _ _ _ _ _ _ _ _ _ _ _ _ _ _ _ _ _ _ _ _ _ _ _ _ _ _ _ _ _ _ _ _ _ _ _ _ _ _ _ _ _ _ _ HS.out.kp HH.out
theorem sw_self {V U : World} {A E X ge m q3 j : Nat} {F : Nat → Prop} {b : Bs} {x1 x2 : Option Addr} {y1 y2 : Nat} {left : Int} {p : Option Addr} {n c : Nat} {e : Ev} {es : List Ev} (s : Sw V U A E X ge m j F b x1 x2 y1 y2 e es) {a : Ev} (hA : U.heap[A]? = some (.cells (ecs a).toArray 58 (0, 0))) (h : Hl b A F (.slice x1 b.l1.length y1) (.slice x2 b.l2.length y2) U left p n c es) (kd : e.kd = 4) (krs : e.rs = 5) (kid : e.id = a.id) {cd : Code} (hc : (Try.f7.body.bind (blk 4)) = some cd) (u0 u1 u2 u3 u4 u5 u6 u7 u15 u16 u17 u18 u19 u20 u21 u22 u23 u24 u25 u26 u27 u28 u29 u30 u31 u32 u33 u34 u35 u36 u37 u38 u39 u40 u41 u42 u43 u44 u45 u46 u47 u48 u49 u50 u51 u52 u53 u54 u55 u57 u58 u59 u60 u61 u62 u63 u64 u65 u66 u67 u68 u69 u70 u71 u72 u73 u74 u75 u76 u77 u78 u79 u80 u81 u82 u83 u84 u85 u86 u87 u88 u89 u90 u91 u92 u93 u94 u95 u96 u97 u98 u99 u100 u101 u102 u103 u104 u105 u106 u107 u108 u109 u110 u111 u112 u113 u114 u115 u116 u117 u118 u119 u120 u121 u122 u123 u124 u125 u126 u127 u128 u129 u130 u131 u132 u133 u134 u135 u136 u137 u138 u139 u140 u141 u142 u143 u144 u145 u146 u147 u148 u149 u150 u151 u152 u153 u154 u155 u156 u157 u158 u159 u160 u161 u162 u163 u164 u165 u166 u167 u168 u169 u170 u171 u172 u173 u174 u175 u176 u177 u178 u179 u180 u181 u182 u183 u184 u185 u186 u187 u188 u189 u190 u191 u192 u193 u194 u195 u196 u197 u198 u199 u200 u201 u202 u203 u204 u205 u206 u207 u208 u209 u210 u211 u212 u213 u214 u215 u216 u217 u218 u219 u220 u221 u222 u223 u224 u225 u226 u227 u228 u229 u230 u231 u232 u233 u234 u235 u236 u237 u238 u239 u240 u241 u242 u243 u244 u245 u246 u247 u248 u249 u250 u251 u252 u253 u254 u255 u256 u257 u258 u259 u260 u261 u262 u263 u264 u265 u266 u267 u268 u269 u270 u271 u272 u273 u274 u275 u276 u277 u278 u279 u280 u281 u282 u283 u284 u285 u286 u287 u288 u289 u290 u291 u292 u293 u294 u295 u296 u297 u298 u299 u300 u301 u302 u303 u304 u305 u306 u307 u308 u309 u310 u311 u312 u313 u314 u315 u316 u317 u318 u319 : Value)
    {Q : Exit → Act → World → Prop} (hQ : ∀ (left2 : Int) (p2 : Option Addr) (n2 c2 : Nat) (U2 : World) (v15 v16 v57 v58 v59 v60 v61 v62 v63 v64 v65 v66 v67 v68 v69 v70 v71 v72 v73 v74 v75 v76 v77 v78 v79 v80 v81 v82 v83 v84 v85 v86 v87 v88 v89 v90 v91 v92 v93 v94 v95 v96 v97 v98 v99 v100 v101 v102 v103 v104 v105 v106 v107 v108 v109 v110 v111 v112 v113 v114 v115 v116 v117 v118 v119 v120 v121 v122 v123 v124 v125 v126 v127 v128 v129 v130 v131 v132 v133 v134 v135 v136 v137 v138 v139 v140 v141 v142 v143 v144 v145 v146 v147 v148 v149 v150 v151 v152 v153 v154 v155 v156 v157 v158 v159 v160 v161 v162 v163 v164 v165 v166 v167 v168 v169 v170 v171 v172 v173 v174 v175 v176 v177 v178 v179 v180 v181 v182 v183 v184 v185 v186 v187 v188 v189 v190 v191 v192 v193 v194 v195 v196 v197 v198 v199 v200 v201 v202 v203 v204 v205 v206 v207 v208 v209 v210 v211 v212 v213 v214 v215 v216 v217 v218 v219 v220 v221 v222 v223 v224 v225 v226 v227 v228 v229 v230 v231 v232 v233 v234 v235 v236 v237 v238 v239 v240 v241 v242 v243 v244 v245 v246 v247 v248 v249 v250 v251 v252 v253 v254 v255 v256 v257 v258 v259 v260 v261 v262 v263 v264 v265 v266 v267 v268 v269 v270 v271 v272 v273 v274 v275 v276 v277 v278 v279 v280 v281 v282 v283 v284 v285 v286 v287 v288 v289 v290 v291 v292 v293 v294 v295 v296 v297 v298 v299 v300 v301 v302 v303 v304 v305 v306 v307 v308 v309 v310 v311 v312 v313 v314 v315 v316 v317 v318 v319 : Value), Kp (fun j => j = A ∨ F j) V U2 → Hl b A F (.slice x1 b.l1.length y1) (.slice x2 b.l2.length y2) U2 left2 p2 n2 c2 es → Q .normal { tmps := #[u0, u1, u2, u3, u4, u5, u6, u7, .pointer (some ⟨X, 0, none⟩), .slice (some ⟨ge, 0, none⟩) m q3, .pointer (some ⟨A, 0, none⟩), .int .u64 left2, .slice p2 n2 c2, .int .i64 (j : Int), .pointer (some ⟨E, 0, none⟩), v15, v16, u17, u18, u19, u20, u21, u22, u23, u24, u25, u26, u27, u28, u29, u30, u31, u32, u33, u34, u35, u36, u37, u38, u39, u40, u41, u42, u43, u44, u45, u46, u47, u48, u49, u50, u51, u52, u53, u54, u55, .int .i64 e.kd, v57, v58, v59, v60, v61, v62, v63, v64, v65, v66, v67, v68, v69, v70, v71, v72, v73, v74, v75, v76, v77, v78, v79, v80, v81, v82, v83, v84, v85, v86, v87, v88, v89, v90, v91, v92, v93, v94, v95, v96, v97, v98, v99, v100, v101, v102, v103, v104, v105, v106, v107, v108, v109, v110, v111, v112, v113, v114, v115, v116, v117, v118, v119, v120, v121, v122, v123, v124, v125, v126, v127, v128, v129, v130, v131, v132, v133, v134, v135, v136, v137, v138, v139, v140, v141, v142, v143, v144, v145, v146, v147, v148, v149, v150, v151, v152, v153, v154, v155, v156, v157, v158, v159, v160, v161, v162, v163, v164, v165, v166, v167, v168, v169, v170, v171, v172, v173, v174, v175, v176, v177, v178, v179, v180, v181, v182, v183, v184, v185, v186, v187, v188, v189, v190, v191, v192, v193, v194, v195, v196, v197, v198, v199, v200, v201, v202, v203, v204, v205, v206, v207, v208, v209, v210, v211, v212, v213, v214, v215, v216, v217, v218, v219, v220, v221, v222, v223, v224, v225, v226, v227, v228, v229, v230, v231, v232, v233, v234, v235, v236, v237, v238, v239, v240, v241, v242, v243, v244, v245, v246, v247, v248, v249, v250, v251, v252, v253, v254, v255, v256, v257, v258, v259, v260, v261, v262, v263, v264, v265, v266, v267, v268, v269, v270, v271, v272, v273, v274, v275, v276, v277, v278, v279, v280, v281, v282, v283, v284, v285, v286, v287, v288, v289, v290, v291, v292, v293, v294, v295, v296, v297, v298, v299, v300, v301, v302, v303, v304, v305, v306, v307, v308, v309, v310, v311, v312, v313, v314, v315, v316, v317, v318, v319], defers := [] } U2) :
    cd.wp Try.prog Q { tmps := #[u0, u1, u2, u3, u4, u5, u6, u7, .pointer (some ⟨X, 0, none⟩), .slice (some ⟨ge, 0, none⟩) m q3, .pointer (some ⟨A, 0, none⟩), .int .u64 left, .slice p n c, .int .i64 (j : Int), .pointer (some ⟨E, 0, none⟩), u15, u16, u17, u18, u19, u20, u21, u22, u23, u24, u25, u26, u27, u28, u29, u30, u31, u32, u33, u34, u35, u36, u37, u38, u39, u40, u41, u42, u43, u44, u45, u46, u47, u48, u49, u50, u51, u52, u53, u54, u55, .int .i64 e.kd, u57, u58, u59, u60, u61, u62, u63, u64, u65, u66, u67, u68, u69, u70, u71, u72, u73, u74, u75, u76, u77, u78, u79, u80, u81, u82, u83, u84, u85, u86, u87, u88, u89, u90, u91, u92, u93, u94, u95, u96, u97, u98, u99, u100, u101, u102, u103, u104, u105, u106, u107, u108, u109, u110, u111, u112, u113, u114, u115, u116, u117, u118, u119, u120, u121, u122, u123, u124, u125, u126, u127, u128, u129, u130, u131, u132, u133, u134, u135, u136, u137, u138, u139, u140, u141, u142, u143, u144, u145, u146, u147, u148, u149, u150, u151, u152, u153, u154, u155, u156, u157, u158, u159, u160, u161, u162, u163, u164, u165, u166, u167, u168, u169, u170, u171, u172, u173, u174, u175, u176, u177, u178, u179, u180, u181, u182, u183, u184, u185, u186, u187, u188, u189, u190, u191, u192, u193, u194, u195, u196, u197, u198, u199, u200, u201, u202, u203, u204, u205, u206, u207, u208, u209, u210, u211, u212, u213, u214, u215, u216, u217, u218, u219, u220, u221, u222, u223, u224, u225, u226, u227, u228, u229, u230, u231, u232, u233, u234, u235, u236, u237, u238, u239, u240, u241, u242, u243, u244, u245, u246, u247, u248, u249, u250, u251, u252, u253, u254, u255, u256, u257, u258, u259, u260, u261, u262, u263, u264, u265, u266, u267, u268, u269, u270, u271, u272, u273, u274, u275, u276, u277, u278, u279, u280, u281, u282, u283, u284, u285, u286, u287, u288, u289, u290, u291, u292, u293, u294, u295, u296, u297, u298, u299, u300, u301, u302, u303, u304, u305, u306, u307, u308, u309, u310, u311, u312, u313, u314, u315, u316, u317, u318, u319], defers := [] } U := by
  simp only [Try.f7, blk, Option.bind, Option.or, Nat.reduceEqDiff, reduceCtorEq, if_false, if_true, reduceIte] at hc
  injection hc with hc
  subst hc
  have HQ := hid hQ
  clear hQ
  obtain ⟨e0, e1, e2, e3, e4, e5, e6, e7, e8, e9, e10, e11, e12⟩ := ev_row s.ex
  obtain ⟨a0, a1, a2, a3, a4, a5, a6, a7, a8, a9, a10, a11, a12⟩ := ev_row hA
  rw [kd] at e1 HQ ⊢
  rw [krs] at e11
  rw [kid] at e2
  have n1 : (a.id != a.id) = false := by simp
  have HH := hid h
  have HS := hid s
  clear h s kd krs kid hA
  go_wp2
  exact HQ.out left p n c U _ _ _ _ _ _ _ _ _ _ _ _ _ _ _ _ _ _ _ _ _ _ _ _ _ _ _ _ _ _ _ _ _ _ _ _ _ _ _ _ _ _ _ _ _ _ _ _ _ _ _ _ _ _ _ _ _ _ _ _ _ _ _ _ _ _ _ _ _ _ _ _ _ _ _ _ _ _ _ _ _ _ _ _ _ _ _ _ _ _ _ _ _ _ _ _ _ _ _ _ _ _ _ _ _ _ _ _ _ _ _ _ _ _ _ _ _ _ _ _ _ _ _ _ _ _ _ _ _ _ _ _ _ _ _ _ _ _ _ _ _ _ _ _ _ _ _ _ _ _ _ _ _ _ _ _ _ _ _ _ _ _ _ _ _ _ _ _ _ _ _ _ _ _ _ _ _ _ _ _ _ _ _ _ _ _ _ _ _ _ _ _ _ _ _ _ _ _ _ _ _ _ _ _ _ _ _ _ _ _ _ _ _ _ _ _ _ _ _ _ _ _ _ _ _ _ _ _ _ _ _ _ _ _ _ _ _ _ _ _ _ _ _ _ _ _ _ _ _ _ _ _ _ _ _ _ _ _ _ _ _ _ _ _ _ HS.out.kp HH.out
end

end Go.Proofs.Ytalgndgoedlpoaa
