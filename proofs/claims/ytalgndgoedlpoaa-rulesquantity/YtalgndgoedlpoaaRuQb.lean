/-
  Nothing of a quantity is lost: what a command does to the lives, plainly.
-/
import Derived.Test.YtalgndgoedlpoaaRuQa
namespace Go.Proofs.Ytalgndgoedlpoaa
open Go.RowKit Go.Deep Go.Shelf
set_option linter.unusedVariables false
set_option linter.unusedSimpArgs false
theorem rmL_nonneg {id : Int} : ∀ {l : LO}, (∀ y ∈ l, OrOk y.2) → 0 ≤ rmL id l
  | [], _ => Int.le_refl _
  | y :: l, h => by
    have h1 := rmL_nonneg (id := id) (l := l) (fun z hz => h z (by simp [hz]))
    have h2 := h y (by simp)
    unfold OrOk at h2
    unfold rmL
    split <;> omega
theorem rmL_ge {id : Int} : ∀ {l : LO} {y : Nat × Or}, (∀ y ∈ l, OrOk y.2) → y ∈ l → y.2.id = id → y.2.vi + y.2.hi ≤ rmL id l
  | z :: l, y, h, hy, e => by
    have h1 := rmL_nonneg (id := id) (l := l) (fun z hz => h z (by simp [hz]))
    have h2 := h z (by simp)
    unfold OrOk at h2
    unfold rmL
    rcases List.mem_cons.1 hy with rfl | hy
    · rw [if_pos e]; omega
    · have := rmL_ge (id := id) (fun z hz => h z (by simp [hz])) hy e
      split <;> omega
theorem rm_nonneg {b : Bs} (v : Vb b) (id : Int) : 0 ≤ rm b id := by
  have h1 := rmL_nonneg (id := id) (l := b.l1) (v.ok 1)
  have h2 := rmL_nonneg (id := id) (l := b.l2) (v.ok 2)
  unfold rm
  omega
theorem rm_ge {b : Bs} (v : Vb b) {S : Int} {y : Nat × Or} (hy : y ∈ b.sl S) : y.2.vi + y.2.hi ≤ rm b y.2.id := by
  have h1 := rmL_nonneg (id := y.2.id) (l := b.l1) (v.ok 1)
  have h2 := rmL_nonneg (id := y.2.id) (l := b.l2) (v.ok 2)
  unfold rm
  unfold Bs.sl at hy
  split at hy
  · have h3 : y.2.vi + y.2.hi ≤ rmL y.2.id b.l1 := rmL_ge (v.ok 1) hy rfl
    omega
  · have h3 : y.2.vi + y.2.hi ≤ rmL y.2.id b.l2 := rmL_ge (v.ok 2) hy rfl
    omega
theorem rm_none {b : Bs} {id : Int} (h : ∀ S, ∀ y ∈ b.sl S, y.2.id ≠ id) : rm b id = 0 := by
  unfold rm
  rw [rmL_none (l := b.l1) (h 1), rmL_none (l := b.l2) (h 2)]
  rfl
/-- what is left of each while an order comes. -/
def fq (b : Bs) (id q i : Int) : Int := rm b i + if i = id then q else 0
theorem mtB_rm {b : Bs} {o : Or} {s q : Int} {f : Nat} {x : Or} {r : LO} (hs : s = 1 ∨ s = 2) (hl : b.sl (oth s) = (f, x) :: r) (hx : OrOk x) (hq : 0 < q) (i : Int) :
    rm (mtB b o s q f x r).1 i = rm b i - (if prt b o x = false then (if x.id = i then min q x.vi else 0) else if b.meet = 1 then 0 else if x.id = i then x.vi + x.hi else 0) := by
  have hS := oth_side hs
  have hd : rm (b.del (oth s) 0) i = rm b i - if x.id = i then x.vi + x.hi else 0 := by
    unfold Bs.del
    rw [rm_put hS, hl]
    simp only [List.eraseIdx_cons_zero, rmL]
    omega
  unfold mtB
  split
  · have e : rm (trb b x (min q x.vi)) i = rm b i ∧ (trb b x (min q x.vi)).sl (oth s) = b.sl (oth s) := by
      unfold trb
      split
      · exact ⟨rfl, rfl⟩
      · split <;> exact ⟨rfl, rfl⟩
    simp only
    rw [rm_put hS, e.1, e.2, hl, rmL_trl (Int.min_le_right _ _)]
    omega
  · split
    · show rm b i = _; omega
    · split
      · exact hd
      · exact hd
theorem cms_ct {o : Or} {s : Int} (hs : s = 1 ∨ s = 2) : ∀ (n : Nat) (b : Bs) (es : List Ev) (q : Int) (L : List Lf), Vb b → (∀ S, ∀ y ∈ b.sl S, y.2.id ≠ o.id) → 0 ≤ q → Qv L (fq b o.id q) → (∀ S, ∀ y ∈ b.sl S, y.2.id ∈ L.map (·.id)) → o.id ∈ L.map (·.id) →
    ∃ add L', (cms o s n (b, es, q)).2.1 = es ++ add ∧ Ct L add L' ∧ Qv L' (fq (cms o s n (b, es, q)).1 o.id (cms o s n (b, es, q)).2.2) ∧ L'.map (·.id) = L.map (·.id)
  | 0, b, es, q, L, v, hi, hq, hv, hm, ho => ⟨[], L, by simp [cms], rfl, hv, rfl⟩
  | n + 1, b, es, q, L, v, hi, hq, hv, hm, ho => by
    by_cases hc : 0 < q ∧ mts b o s = true
    · obtain ⟨f, x, r, hl⟩ := mts_cons hc.2
      rw [cms_step hc hl]
      obtain ⟨v', _, _, q0, q1⟩ := v.met (o := o) hs hl hc.1
      have hmx : (f, x) ∈ b.sl (oth s) := by rw [hl]; simp
      have hx := v.ok (oth s) (f, x) hmx
      have hxi := hi (oth s) (f, x) hmx
      have hxm := hm (oth s) (f, x) hmx
      have hge := rm_ge v hmx
      have hno := rm_none (fun S y hy => hi S y hy)
      simp only at hx hxi hxm hge
      have hx' := hx
      unfold OrOk at hx'
      have hsb := mtB_sb (o := o) (q := q) hs hl
      have hi' : ∀ S, ∀ y ∈ (mtB b o s q f x r).1.sl S, y.2.id ≠ o.id := fun S y hy e => by
        obtain ⟨z, hz, e'⟩ := hsb.sub _ y hy
        exact hi S z hz (e'.trans e)
      have hrm := mtB_rm (o := o) (q := q) hs hl hx hc.1
      have hfo : fq b o.id q o.id = q := by unfold fq; rw [if_pos rfl, hno]; omega
      have hfx : x.vi + x.hi ≤ fq b o.id q x.id := by unfold fq; rw [if_neg hxi]; omega
      have hstep : ∃ L1, Ct L (mtB b o s q f x r).2.1 L1 ∧ Qv L1 (fq (mtB b o s q f x r).1 o.id (mtB b o s q f x r).2.2) ∧ L1.map (·.id) = L.map (·.id) := by
        by_cases hp : prt b o x = false
        · have em : (mtB b o s q f x r).2 = (tre b.seq o s x (min q x.vi), q - min q x.vi) := by unfold mtB; rw [if_pos hp]
          rw [em]
          obtain ⟨L1, g1, g2, g3⟩ := hv.trade (e := (evT o s x (min q x.vi)).num (nx b.seq)) rfl ho hxm (Ne.symm hxi) (by show 0 < min q x.vi; omega) (by show min q x.vi ≤ fq b o.id q o.id; rw [hfo]; omega) (by show min q x.vi ≤ fq b o.id q x.id; omega)
          refine ⟨L1, ?_, g2.congr (fun i => ?_), g3⟩
          · simp only [tre]
            split
            · exact g1
            · split
              · exact g1
              · exact ct_app (b := [_]) g1 (.inr (.inr (.inr ⟨.inr rfl, rfl⟩)))
          · have h := hrm i
            rw [if_pos hp] at h
            show fq (mtB b o s q f x r).1 o.id (q - min q x.vi) i = mns (mns (fq b o.id q) o.id (min q x.vi)) x.id (min q x.vi) i
            simp only [fq, mns]
            rw [h]
            by_cases h1 : i = o.id
            · have h2 : ¬ x.id = i := fun e => hxi (e.trans h1)
              have h3 : ¬ i = x.id := fun e => h2 e.symm
              rw [if_neg h2, if_pos h1, if_neg h3, if_pos h1, if_pos h1]
              omega
            · by_cases h2 : x.id = i
              · rw [if_pos h2, if_neg h1, if_pos h2.symm, if_neg h1, if_neg h1]; omega
              · have h3 : ¬ i = x.id := fun e => h2 e.symm
                rw [if_neg h2, if_neg h1, if_neg h3, if_neg h1, if_neg h1]; omega
        · by_cases m1 : b.meet = 1
          · have em : (mtB b o s q f x r).2 = ([(evC o.id q 5).num (nx b.seq)], 0) := by unfold mtB; rw [if_neg hp, if_pos m1]
            rw [em]
            obtain ⟨L1, g1, g2, g3⟩ := hv.cancel (e := (evC o.id q 5).num (nx b.seq)) rfl ho (by show 0 < q; exact hc.1) (by show q ≤ fq b o.id q o.id; omega)
            refine ⟨L1, g1, g2.congr (fun i => ?_), g3⟩
            have h := hrm i
            rw [if_neg hp, if_pos m1] at h
            show fq (mtB b o s q f x r).1 o.id 0 i = mns (fq b o.id q) o.id q i
            simp only [fq, mns]
            rw [h]
            split <;> omega
          · have hc2 : ∃ L1, Ct L [(evC x.id (x.vi + x.hi) 5).num (nx b.seq)] L1 ∧ Qv L1 (fq (mtB b o s q f x r).1 o.id q) ∧ L1.map (·.id) = L.map (·.id) := by
              obtain ⟨L1, g1, g2, g3⟩ := hv.cancel (e := (evC x.id (x.vi + x.hi) 5).num (nx b.seq)) rfl hxm (by show 0 < x.vi + x.hi; omega) (by show x.vi + x.hi ≤ fq b o.id q x.id; omega)
              refine ⟨L1, g1, g2.congr (fun i => ?_), g3⟩
              have h := hrm i
              rw [if_neg hp, if_neg m1] at h
              show fq (mtB b o s q f x r).1 o.id q i = mns (fq b o.id q) x.id (x.vi + x.hi) i
              simp only [fq, mns]
              rw [h]
              by_cases h2 : x.id = i
              · rw [if_pos h2, if_pos h2.symm]; omega
              · have h3 : ¬ i = x.id := fun e => h2 e.symm
                rw [if_neg h2, if_neg h3]; omega
            obtain ⟨L1, g1, g2, g3⟩ := hc2
            by_cases m2 : b.meet = 2
            · have em : (mtB b o s q f x r).2 = ([(evC x.id (x.vi + x.hi) 5).num (nx b.seq)], q) := by unfold mtB; rw [if_neg hp, if_neg m1, if_pos m2]
              rw [em]
              exact ⟨L1, g1, g2, g3⟩
            · have em : (mtB b o s q f x r).2 = ([(evC x.id (x.vi + x.hi) 5).num (nx b.seq), (evC o.id q 5).num (nx (nx b.seq))], 0) := by unfold mtB; rw [if_neg hp, if_neg m1, if_neg m2]
              rw [em]
              have hrn : rm (mtB b o s q f x r).1 o.id = 0 := rm_none (fun S y hy => hi' S y hy)
              obtain ⟨L2, k1, k2, k3⟩ := g2.cancel (e := (evC o.id q 5).num (nx (nx b.seq))) rfl (by rw [g3]; exact ho) (by show 0 < q; exact hc.1) (by show q ≤ fq (mtB b o s q f x r).1 o.id q o.id; unfold fq; rw [if_pos rfl, hrn]; omega)
              refine ⟨L2, ct_app (a := [_]) g1 k1, k2.congr (fun i => ?_), k3.trans g3⟩
              show fq (mtB b o s q f x r).1 o.id 0 i = mns (fq (mtB b o s q f x r).1 o.id q) o.id q i
              simp only [fq, mns]
              split <;> omega
      obtain ⟨L1, s1, s2, s3⟩ := hstep
      obtain ⟨add, L', g1, g2, g3, g4⟩ := cms_ct hs n (mtB b o s q f x r).1 (es ++ (mtB b o s q f x r).2.1) (mtB b o s q f x r).2.2 L1 v' hi' q0 s2 (fun S y hy => by
        obtain ⟨z, hz, e'⟩ := hsb.sub _ y hy
        rw [s3, ← e']
        exact hm S z hz) (by rw [s3]; exact ho)
      exact ⟨(mtB b o s q f x r).2.1 ++ add, L', by rw [g1, List.append_assoc], ct_app s1 g2, g3, g4.trans s3⟩
    · rw [cms_end hc]
      exact ⟨[], L, by simp, rfl, hv, rfl⟩
/-- the lives of a book. -/
structure Lg (b : Bs) (L : List Lf) : Prop where
  qv : Qv L (rm b)
  mem : ∀ S, ∀ y ∈ b.sl S, y.2.id ∈ L.map (·.id)
  top : ∀ x ∈ L, x.id ≤ b.high
theorem took_ct {b : Bs} {es : List Ev} {o : Or} {s q : Int} {b' : Bs} {es' : List Ev} {L : List Lf} (hs : s = 1 ∨ s = 2) (h : Took b es o s q b' es') (v : Vb b) (g : Lg b L) (hh : b.high < o.id) (hq : 0 < q) (hq' : q < 4294967296) : ∃ t L', es' = es ++ t ∧ Ct L t L' ∧ Lg b' L' ∧ L'.length = L.length + 1 := by
  have hni : ∀ x ∈ L, x.id ≠ o.id := fun x hx e => by have := g.top x hx; omega
  have hnb : ∀ S, ∀ y ∈ b.sl S, y.2.id ≠ o.id := fun S y hy e => by
    obtain ⟨x, hx, e'⟩ := List.mem_map.1 (g.mem S y hy)
    exact hni x hx (e'.trans e)
  have hz : rm b o.id = 0 := rm_none hnb
  obtain ⟨L0, hL0⟩ : ∃ L0, L0 = L ++ [⟨o.id, q, 0, 0, o.ty⟩] := ⟨_, rfl⟩
  have hct0 : Ct L [(evA o s q).num (nx b.seq)] L0 := .inl ⟨rfl, lfi_none hni, by rw [hL0]; rfl⟩
  have hid0 : L0.map (·.id) = L.map (·.id) ++ [o.id] := by rw [hL0]; simp
  have hq0 : Qv L0 (fq (b.hgh o.id).told o.id q) := by
    refine ⟨?_, ?_⟩
    · rw [hid0, List.nodup_append]
      refine ⟨g.qv.nd, by simp, ?_⟩
      intro x hx y hy
      simp only [List.mem_singleton] at hy
      subst hy
      obtain ⟨z, hz, rfl⟩ := List.mem_map.1 hx
      exact hni z hz
    · intro x hx
      rw [hL0] at hx
      show 0 ≤ x.tr ∧ 0 ≤ x.ca ∧ x.qy < 4294967296 ∧ x.tr + x.ca + (rm b x.id + if x.id = o.id then q else 0) = x.qy ∧ 0 ≤ rm b x.id + if x.id = o.id then q else 0
      rcases List.mem_append.1 hx with hx | hx
      · have h1 := g.qv.ok x hx
        rw [if_neg (hni x hx)]
        exact ⟨h1.1, h1.2.1, h1.2.2.1, by omega, by omega⟩
      · simp only [List.mem_singleton] at hx
        subst hx
        show (0 : Int) ≤ 0 ∧ (0 : Int) ≤ 0 ∧ q < 4294967296 ∧ 0 + 0 + (rm b o.id + if o.id = o.id then q else 0) = q ∧ 0 ≤ rm b o.id + if o.id = o.id then q else 0
        rw [if_pos rfl, hz]
        exact ⟨by omega, by omega, hq', by omega, by omega⟩
  have ho0 : o.id ∈ L0.map (·.id) := by rw [hid0]; simp
  have hm0 : ∀ S, ∀ y ∈ b.sl S, y.2.id ∈ L0.map (·.id) := fun S y hy => by rw [hid0]; exact List.mem_append_left _ (g.mem S y hy)
  have hlen : ∀ L' : List Lf, L'.map (·.id) = L0.map (·.id) → L'.length = L.length + 1 := fun L' e => by
    have := congrArg List.length e
    rw [hid0] at this
    simpa using this
  have htop : ∀ L' : List Lf, L'.map (·.id) = L0.map (·.id) → ∀ x ∈ L', x.id ≤ o.id := fun L' e x hx => by
    have h1 : x.id ∈ L'.map (·.id) := List.mem_map.2 ⟨x, hx, rfl⟩
    rw [e, hid0] at h1
    rcases List.mem_append.1 h1 with h1 | h1
    · obtain ⟨z, hz, e'⟩ := List.mem_map.1 h1
      have := g.top z hz
      omega
    · simp only [List.mem_singleton] at h1
      omega
  rcases h with ⟨_, _, rfl, rfl⟩ | ⟨_, n, hcm⟩
  · obtain ⟨L1, g1, g2, g3⟩ := hq0.cancel (e := (evC o.id q 4).num (nx (nx b.seq))) rfl ho0 hq (by show q ≤ rm b o.id + if o.id = o.id then q else 0; rw [if_pos rfl, hz]; omega)
    refine ⟨[(evA o s q).num (nx b.seq)] ++ [(evC o.id q 4).num (nx (nx b.seq))], L1, by rw [List.append_assoc], ct_app hct0 g1, ⟨g2.congr (fun i => ?_), fun S y hy => by rw [g3]; exact hm0 S y hy, htop L1 g3⟩, hlen L1 g3⟩
    show rm b i = (rm b i + if i = o.id then q else 0) - if i = o.id then q else 0
    omega
  · obtain ⟨add, L1, c1, c2, c3, c4⟩ := cms_ct (o := o) hs (mes b s q + 1) (b.hgh o.id).told (es ++ [(evA o s q).num (nx b.seq)]) q L0 (v.hgh _).told hnb (by omega) hq0 hm0 ho0
    obtain ⟨_, _, sb, k0, _⟩ := cms_good (o := o) hs (mes b s q + 1) (b.hgh o.id).told (es ++ [(evA o s q).num (nx b.seq)]) q (v.hgh _).told (by omega)
    obtain ⟨C, hC⟩ : ∃ C, cms o s (mes b s q + 1) ((b.hgh o.id).told, es ++ [(evA o s q).num (nx b.seq)], q) = C := ⟨_, rfl⟩
    rw [hC] at hcm c1 c3 sb k0
    have hh1 : C.1.high = o.id := sb.high
    have hm1 : ∀ S, ∀ y ∈ C.1.sl S, y.2.id ∈ L1.map (·.id) := fun S y hy => by
      obtain ⟨z, hz, e'⟩ := sb.sub S y hy
      rw [c4, ← e']
      exact hm0 S z hz
    have hn1 : ∀ S, ∀ y ∈ C.1.sl S, y.2.id ≠ o.id := fun S y hy e => by
      obtain ⟨z, hz, e'⟩ := sb.sub S y hy
      exact hnb S z hz (e'.trans e)
    have hz1 : rm C.1 o.id = 0 := rm_none hn1
    rcases hcm with ⟨x0, rfl, rfl⟩ | ⟨x0, _, rfl, p', c', blk, _, rfl⟩ | ⟨x0, _, rfl, rfl⟩
    · refine ⟨[(evA o s q).num (nx b.seq)] ++ add, L1, by rw [c1, List.append_assoc], ct_app hct0 c2, ⟨c3.congr (fun i => ?_), hm1, fun x hx => by rw [hh1]; exact htop L1 c4 x hx⟩, hlen L1 c4⟩
      unfold fq
      rw [x0]
      split <;> omega
    · refine ⟨[(evA o s q).num (nx b.seq)] ++ add, L1, by rw [c1, List.append_assoc], ct_app hct0 c2, ⟨c3.congr (fun i => ?_), fun S y hy => ?_, fun x hx => by rw [put_high, hh1]; exact htop L1 c4 x hx⟩, hlen L1 c4⟩
      · rw [rm_put hs, rmL_perm ins_perm]
        have : (shw o.pk C.2.2).1 + (shw o.pk C.2.2).2 = C.2.2 := by unfold shw; split <;> simp only <;> omega
        simp only [rmL, fq]
        by_cases h1 : i = o.id
        · rw [if_pos h1.symm, if_pos h1]; omega
        · rw [if_neg (Ne.symm h1), if_neg h1]; omega
      · rw [put_sl' _ _ _ _ _ _ hs] at hy
        split at hy
        · rcases List.mem_cons.1 (ins_perm.mem_iff.1 hy) with rfl | hy
          · show o.id ∈ _
            rw [c4]; exact ho0
          · exact hm1 s y hy
        · exact hm1 S y hy
    · obtain ⟨L2, g1, g2, g3⟩ := c3.cancel (e := (evC o.id C.2.2 3).num (nx C.1.seq)) rfl (by rw [c4]; exact ho0) x0 (by show C.2.2 ≤ fq C.1 o.id C.2.2 o.id; unfold fq; rw [if_pos rfl, hz1]; omega)
      refine ⟨[(evA o s q).num (nx b.seq)] ++ (add ++ [(evC o.id C.2.2 3).num (nx C.1.seq)]), L2, by rw [c1]; simp only [List.append_assoc], ct_app hct0 (ct_app c2 g1), ⟨g2.congr (fun i => ?_), fun S y hy => by rw [g3]; exact hm1 S y hy, fun x hx => by show x.id ≤ C.1.high; rw [hh1]; exact htop L2 (g3.trans c4) x hx⟩, hlen L2 (g3.trans c4)⟩
      show rm C.1 i = (rm C.1 i + if i = o.id then C.2.2 else 0) - if i = o.id then C.2.2 else 0
      omega
end Go.Proofs.Ytalgndgoedlpoaa
