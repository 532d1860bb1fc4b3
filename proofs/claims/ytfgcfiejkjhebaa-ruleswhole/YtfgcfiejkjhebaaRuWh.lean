/-
  An FOK looks ahead as an IOC goes, plainly.
-/
import Derived.Test.YtfgcfiejkjhebaaRuGo
namespace Go.Proofs.Ytfgcfiejkjhebaa
open Go.RowKit Go.Deep Go.Shelf
set_option linter.unusedVariables false
set_option linter.unusedSimpArgs false
/-- a command as a new order of a type. -/
def Cm.as (c : Cm) (t : Int) : Cm := { c with kd := 1, ty := t }
/-- what the law looks at. -/
def Wh (q : Int) (x y : List Ev) : Prop := ∃ e r e2 r2, x = e :: r ∧ y = e2 :: r2 ∧ e.kd = e2.kd ∧ e.cd = e2.cd ∧ (e.kd ≠ 2 → Pos y ∧ trd y ≤ q ∧ q < 4294967296 ∧ (trd y ≠ q → ∃ d, r = [d] ∧ d.kd = 4 ∧ d.qt = q ∧ d.rs = 4) ∧ (trd y = q → r = r2))
theorem rfs_as (b : Bs) (c : Cm) : rfs b (c.as 3) = rfs b (c.as 4) := by
  have e : chk (c.as 3) = chk (c.as 4) := by
    simp [chk, Cm.as, chO, pkF, rst]
    congr
  have k3 : cmN b (c.as 3) = c.as 3 := by unfold cmN; rw [if_neg (by show ¬ (1 : Int) = 3; decide)]
  have k4 : cmN b (c.as 4) = c.as 4 := by unfold cmN; rw [if_neg (by show ¬ (1 : Int) = 3; decide)]
  unfold rfs
  rw [e, k3, k4]
  simp [Cm.as, rst]
theorem tc (i k r n : Int) : trd [(evC i k r).num n] = 0 := by simp [trd, evC, Ev.num]
theorem pc (i k r n : Int) : Pos [(evC i k r).num n] := by
  intro e he
  simp only [List.mem_singleton] at he
  subst he
  intro h
  exact absurd (show (4 : Int) = 3 from h) (by decide)
theorem Pos.app {x y : List Ev} (hx : Pos x) (hy : Pos y) : Pos (x ++ y) := fun e he => by
  rcases List.mem_append.1 he with he | he
  · exact hx e he
  · exact hy e he
/-- what an order that does not rest tells. -/
theorem came_not {o : Or} {s : Int} {c : Bs × List Ev × Int} {n : Nat} {b' : Bs} {es' : List Ev} (hr : rst o.ty = false) (h : Came o s c n b' es') : ∃ z, es' = c.2.1 ++ z ∧ trd z = 0 ∧ Pos z ∧ (c.2.2 = 0 → z = []) := by
  rcases h with ⟨_, _, rfl⟩ | ⟨_, x, _⟩ | ⟨a, _, _, rfl⟩
  · exact ⟨[], by simp, rfl, fun e he => by simp at he, fun _ => rfl⟩
  · rw [hr] at x; cases x
  · exact ⟨_, rfl, tc _ _ _ _, pc _ _ _ _, fun h => by omega⟩
theorem did_whole {b b2 : Bs} {c : Cm} {b' b2' : Bs} {x y : List Ev} (h : Sm b b2) (g : Gb b) (h1 : Did b (c.as 4) b' x) (h2 : Did b2 (c.as 3) b2' y) : Wh c.qt x y := by
  have hr : rfs b2 (c.as 3) = rfs b (c.as 4) := (rfs_same h _).trans (rfs_as b c)
  have k3 : cmN b2 (c.as 3) = c.as 3 := by unfold cmN; rw [if_neg (by show ¬ (1 : Int) = 3; decide)]
  have k4 : cmN b (c.as 4) = c.as 4 := by unfold cmN; rw [if_neg (by show ¬ (1 : Int) = 3; decide)]
  have hsq := h.num.2.2.2
  unfold Did at h1 h2
  rw [hr, k3, hsq] at h2
  rw [k4] at h1
  rcases h1 with ⟨a, _, rfl⟩ | ⟨_, k, _⟩ | ⟨a, _, ht⟩ | ⟨_, k, _⟩
  · rcases h2 with ⟨_, _, rfl⟩ | ⟨a', _⟩ | ⟨a', _⟩ | ⟨a', _⟩
    · exact ⟨_, [], _, [], rfl, rfl, rfl, rfl, fun hk => absurd (show (2 : Int) = 2 from rfl) hk⟩
    · exact absurd a' a
    · exact absurd a' a
    · exact absurd a' a
  · exact absurd (show (1 : Int) = 2 from k) (by decide)
  · rcases h2 with ⟨a', _⟩ | ⟨_, k, _⟩ | ⟨_, _, ht2⟩ | ⟨_, k, _⟩
    · exact absurd a a'
    · exact absurd (show (1 : Int) = 2 from k) (by decide)
    · obtain ⟨hs, q1, q2⟩ : (c.sd = 1 ∨ c.sd = 2) ∧ 1 ≤ c.qt ∧ c.qt ≤ 4294967295 := by
        rcases rfs_zero a with ⟨k', _⟩ | ⟨_, hs, q1, q2⟩ | ⟨k', _⟩
        · exact absurd (show (1 : Int) = 2 from k') (by decide)
        · exact ⟨hs, q1, q2⟩
        · exact absurd (show (1 : Int) = 3 from k') (by decide)
      obtain ⟨o, ho⟩ : ∃ o, ord (c.as 4) = o := ⟨_, rfl⟩
      have ho3 : ord (c.as 3) = o.ioc := by rw [← ho]; rfl
      have ho4 : o.ty = 4 := by rw [← ho]; rfl
      have hr3 : rst o.ioc.ty = false := rfl
      rw [ho] at ht
      rw [ho3] at ht2
      obtain ⟨s, hsd⟩ : ∃ s, c.sd = s := ⟨_, rfl⟩
      obtain ⟨q, hqt⟩ : ∃ q, c.qt = q := ⟨_, rfl⟩
      have ht' : Took b [] o s q b' x := by rw [← hsd, ← hqt]; exact ht
      have ht2' : Took b2 [] o.ioc s q b2' y := by rw [← hsd, ← hqt]; exact ht2
      rw [hsd] at hs
      rw [hqt] at q1 q2 ⊢
      clear ht ht2
      have hb1 : Sm (b.hgh o.id).told (b2.hgh o.id).told := (h.hgh _).told
      have v1 : Vb (b.hgh o.id).told := (g.vb.hgh _).told
      -- what the IOC tells
      obtain ⟨n2, hc2⟩ : ∃ n, Came o.ioc s (cms o.ioc s (mes b s q + 1) ((b2.hgh o.id).told, [(evA o.ioc s q).num (nx b.seq)], q)) n b2' y := by
        rcases ht2' with ⟨t4, _⟩ | ⟨_, n, hc⟩
        · exact absurd (show (3 : Int) = 4 from t4) (by decide)
        · rw [mes_same h, hsq] at hc
          exact ⟨n, hc⟩
      obtain ⟨z, hy, z0, z1, z2⟩ := came_not hr3 hc2
      have main : ∀ v, Trd (b.hgh o.id).told o s q v → ∃ add, (cms o.ioc s (mes b s q + 1) ((b2.hgh o.id).told, [(evA o.ioc s q).num (nx b.seq)], q)).2.1 = [(evA o.ioc s q).num (nx b.seq)] ++ add ∧ Pos add ∧ 0 ≤ (cms o.ioc s (mes b s q + 1) ((b2.hgh o.id).told, [(evA o.ioc s q).num (nx b.seq)], q)).2.2 ∧ trd add + (cms o.ioc s (mes b s q + 1) ((b2.hgh o.id).told, [(evA o.ioc s q).num (nx b.seq)], q)).2.2 ≤ q ∧ (v = true ↔ trd add = q) := fun v hv => by
        obtain ⟨a1, n, a3, es3, hsm, hcm, hf⟩ := hv
        have hme : mes (b.hgh o.id).told s q = mes b s q := rfl
        rw [hme] at hcm
        obtain ⟨add, e1, e2, e3⟩ := cms_same (o := o.ioc) hs (Lk.refl _) (mes b s q + 1) a1 (b2.hgh o.id).told [] [(evA o.ioc s q).num (nx b.seq)] q (hsm.symm.trans hb1)
        obtain ⟨p1, p2⟩ := cms_trd (o := o.ioc) hs (mes b s q + 1) a1 [] q (hsm.vb v1) (by omega) (fun e he => by simp at he)
        obtain ⟨_, _, _, p4, _⟩ := cms_good (o := o.ioc) hs (mes b s q + 1) a1 [] q (hsm.vb v1) (by omega)
        have t0 : trd ([] : List Ev) = 0 := rfl
        rw [e1, List.nil_append] at p1 p2
        obtain ⟨zz, f1, f2, f3, _⟩ := came_not hr3 hcm
        rw [e1, List.nil_append] at f1
        have tz : trd es3 = trd add := by rw [f1, trd_append, f2]; omega
        have pz : Pos es3 := by rw [f1]; exact p1.app f3
        have hz := fld_trd pz (by rw [tz]; omega) (by omega : q < 4294967296)
        refine ⟨add, e2, p1, by rw [e3]; exact p4, by rw [e3]; omega, ?_⟩
        rw [← hf, beq_iff_eq, hz, tz]
        omega
      have tA : ∀ o' : Or, trd [(evA o' s q).num (nx b.seq)] = 0 := fun o' => by simp [trd, evA, Ev.num]
      have pA : ∀ o' : Or, Pos [(evA o' s q).num (nx b.seq)] := fun o' e he => by
        simp only [List.mem_singleton] at he
        subst he
        intro h
        exact absurd (show (1 : Int) = 3 from h) (by decide)
      rcases ht' with ⟨_, hv, _, rfl⟩ | ⟨hv, n, hc⟩
      · obtain ⟨add, e1, e2, e3, e4, e5⟩ := main false hv
        have ne : trd add ≠ q := fun hh => by have := e5.2 hh; cases this
        rw [e1] at hy
        have ty : trd y = trd add := by rw [hy, trd_append, trd_append, tA, z0]; omega
        refine ⟨(evA o s q).num (nx b.seq), [(evC o.id q 4).num (nx (nx b.seq))], (evA o.ioc s q).num (nx b.seq), add ++ z, rfl, by rw [hy, List.append_assoc]; rfl, rfl, rfl, fun _ => ⟨?_, by rw [ty]; omega, by omega, fun _ => ⟨_, rfl, rfl, rfl, rfl⟩, fun hh => absurd (ty.symm.trans hh) ne⟩⟩
        rw [hy]
        exact ((pA _).app e2).app z1
      · obtain ⟨add, e1, e2, e3, e4, e5⟩ := main true (hv ho4)
        have he : trd add = q := e5.1 rfl
        have hlk : Lk o o.ioc := ⟨rfl, rfl, rfl, by rw [ho4]; rfl⟩
        obtain ⟨add', g1, g2, g3⟩ := cms_same (o := o) hs hlk (mes b s q + 1) (b.hgh o.id).told (b2.hgh o.id).told [(evA o s q).num (nx b.seq)] [(evA o.ioc s q).num (nx b.seq)] q hb1
        rw [e1] at g2
        obtain rfl : add = add' := List.append_cancel_left g2
        have l0 : (cms o.ioc s (mes b s q + 1) ((b2.hgh o.id).told, [(evA o.ioc s q).num (nx b.seq)], q)).2.2 = 0 := by omega
        rw [g3] at l0
        have hx : x = [(evA o s q).num (nx b.seq)] ++ add := by
          rcases hc with ⟨_, _, rfl⟩ | ⟨a', _⟩ | ⟨a', _⟩
          · exact g1
          · simp only [List.nil_append] at a'; omega
          · simp only [List.nil_append] at a'; omega
        have hz := z2 (by rw [g3]; exact l0)
        subst hz
        rw [e1, List.append_nil] at hy
        have ty : trd y = trd add := by rw [hy, trd_append, tA]; omega
        refine ⟨(evA o s q).num (nx b.seq), add, (evA o.ioc s q).num (nx b.seq), add, by rw [hx]; rfl, by rw [hy]; rfl, rfl, rfl, fun _ => ⟨?_, by rw [ty]; omega, by omega, fun hh => absurd (ty.trans he) hh, fun _ => rfl⟩⟩
        rw [hy]
        exact (pA _).app e2
    · exact absurd (show (1 : Int) = 3 from k) (by decide)
  · exact absurd (show (1 : Int) = 3 from k) (by decide)
end Go.Proofs.Ytfgcfiejkjhebaa
