/-
  RuSa
-/
import Derived.Test.YtalgndgoedlpoaaRuRz
namespace Go.Proofs.Ytalgndgoedlpoaa
open Go.RowKit Go.Deep Go.Shelf
set_option linter.unusedVariables false
set_option linter.unusedSimpArgs false
set_option maxHeartbeats 4000000
set_option maxRecDepth 100000
/-- what became of a book where an order, already told, comes. -/
def Tk (b : Bs) (es : List Ev) (o : Or) (s q : Int) (b' : Bs) (es' : List Ev) : Prop :=
 (o.ty = 4 ∧ Trd b o s q false ∧ b' = b.told ∧ es' = es ++ [(evC o.id q 4).num (nx b.seq)]) ∨
 ((o.ty = 4 → Trd b o s q true) ∧ ∃ n, Came o s (cms o s (mes b s q + 1) (b, es, q)) n b' es')
theorem took_tk {b : Bs} {es : List Ev} {o : Or} {s q : Int} {b' : Bs} {es' : List Ev} (h : Took b es o s q b' es') : Tk (b.hgh o.id).told (es ++ [(evA o s q).num (nx b.seq)]) o s q b' es' := h
theorem trd_is {b : Bs} {o : Or} {s q : Int} {v : Bool} (hs : s = 1 ∨ s = 2) (hv : Vb b) (q0 : 0 ≤ q) (q1 : q < 4294967296) (k : o.ty = 4) (h : Trd b o s q v) : (trd (cms o s (mes b s q + 1) (b, [], q)).2.1 == q) = v := by
 have pC : ∀ i k r n, Pos [(evC i k r).num n] := fun i k r n => by
  intro e he
  simp only [List.mem_singleton] at he
  subst he
  intro h
  exact absurd (show (4 : Int) = 3 from h) (by decide)
 have tC : ∀ i k r n, trd [(evC i k r).num n] = 0 := fun i k r n => by simp [trd, evC, Ev.num]
 have pApp : ∀ {x y : List Ev}, Pos x → Pos y → Pos (x ++ y) := fun hx hy e he => by
  rcases List.mem_append.1 he with he | he
  ·exact hx e he
  ·exact hy e he
 obtain ⟨b2, n2, b3, es3, hsm, hcm, hf⟩ := h
 have hlk : Lk o o.ioc := ⟨rfl, rfl, rfl, by show ((3 : Int) == 2) = (o.ty == 2); rw [k]; rfl⟩
 obtain ⟨add, a1, a2, a3⟩ := cms_same hs hlk (mes b s q + 1) b b2 [] [] q hsm
 have t1 : trd (cms o s (mes b s q + 1) (b, [], q)).2.1 = trd add := by rw [a1]; rfl
 obtain ⟨n1, n3⟩ := cms_trd (o := o.ioc) hs (mes b s q + 1) b2 [] q (hsm.vb hv) q0 (by intro e he; cases he)
 obtain ⟨_, _, _, n4, _⟩ := cms_good (o := o.ioc) hs (mes b s q + 1) b2 [] q (hsm.vb hv) q0
 have e0 : trd (cms o.ioc s (mes b s q + 1) (b2, [], q)).2.1 = trd add := by rw [a2]; rfl
 have hte3 : trd es3 = trd add ∧ Pos es3 := by
  rcases hcm with ⟨_, _, rfl⟩ | ⟨_, _, rfl, _⟩ | ⟨_, _, _, rfl⟩
  ·exact ⟨e0, n1⟩
  ·exact ⟨e0, n1⟩
  ·exact ⟨by rw [trd_append, tC, e0]; omega, pApp n1 (pC _ _ _ _)⟩
 have hle : trd es3 ≤ q := by
  rw [hte3.1]
  rw [e0] at n3
  have : trd ([] : List Ev) = 0 := rfl
  omega
 have hz := fld_trd hte3.2 hle q1
 rw [hz, hte3.1] at hf
 rw [t1]
 cases v with
 | true => simp at hf ⊢; omega
 | false => simp at hf ⊢; omega
/-- the trial failed. -/
theorem tk_no {b : Bs} {es : List Ev} {o : Or} {s q : Int} {b' : Bs} {es' : List Ev} (hs : s = 1 ∨ s = 2) (hv : Vb b) (q0 : 0 ≤ q) (q1 : q < 4294967296) (k : o.ty = 4) (hw : (trd (cms o s (mes b s q + 1) (b, [], q)).2.1 == q) = false) (h : Tk b es o s q b' es') : b' = b.told ∧ es' = es ++ [(evC o.id q 4).num (nx b.seq)] := by
 rcases h with ⟨_, _, h1, h2⟩ | ⟨h1, _⟩
 ·exact ⟨h1, h2⟩
 ·have := trd_is hs hv q0 q1 k (h1 k)
  rw [hw] at this
  cases this
/-- no trial, or one that did not fail. -/
theorem tk_yes {b : Bs} {es : List Ev} {o : Or} {s q : Int} {b' : Bs} {es' : List Ev} (hs : s = 1 ∨ s = 2) (hv : Vb b) (q0 : 0 ≤ q) (q1 : q < 4294967296) (hw : o.ty = 4 → (trd (cms o s (mes b s q + 1) (b, [], q)).2.1 == q) = true) (h : Tk b es o s q b' es') : ∃ n, Came o s (cms o s (mes b s q + 1) (b, es, q)) n b' es' := by
 rcases h with ⟨k, h1, _, _⟩ | ⟨_, h2⟩
 ·have := trd_is hs hv q0 q1 k h1
  rw [hw k] at this
  cases this
 ·exact h2
theorem Dof.told {d : Db} {b : Bs} (h : Dof d b) : Dof d.told b.told := ⟨h.cap, h.meet, h.o1, h.o2, h.high, by show nx d.seq = nx b.seq; rw [h.seq]⟩
theorem dof_ins {d : Db} {b : Bs} {s : Int} (hs : s = 1 ∨ s = 2) (h : Dof d b) (p p' : Option Addr) (c c' blk : Nat) (y : Or) : Dof (d.put s p c (inO (bhO s y.pr (d.os s)) y (d.os s))) (b.put s p' c' (ins (bhd s y.pr (b.sl s)) (blk, y) (b.sl s))) := by
 have e : inO (bhO s y.pr (d.os s)) y (d.os s) = osl (ins (bhd s y.pr (b.sl s)) (blk, y) (b.sl s)) := by
  rw [osl_inO, h.os s, bhO_osl]
 rw [e]
 rcases hs with rfl | rfl
 ·exact ⟨h.cap, h.meet, rfl, h.o2, h.high, h.seq⟩
 ·exact ⟨h.cap, h.meet, h.o1, rfl, h.high, h.seq⟩
/-- nothing is left. -/
theorem came_all {o : Or} {s : Int} {c : Bs × List Ev × Int} {n : Nat} {b' : Bs} {es' : List Ev} {d : Db} (h : Came o s c n b' es') (hd : Dof d c.1) (hz : c.2.2 = 0) : Dof d b' ∧ c.2.1 = es' := by
 rcases h with ⟨_, rfl, rfl⟩ | ⟨h1, _⟩ | ⟨h1, _⟩
 ·exact ⟨hd, rfl⟩
 ·omega
 ·omega
/-- what is left does not rest. -/
theorem came_not {o : Or} {s : Int} {c : Bs × List Ev × Int} {n : Nat} {b' : Bs} {es' : List Ev} {d : Db} (h : Came o s c n b' es') (hd : Dof d c.1) (hz : 0 < c.2.2) (hr : rst o.ty = false) : Dof d.told b' ∧ c.2.1 ++ [(evC o.id c.2.2 3).num (nx d.seq)] = es' := by
 rcases h with ⟨h1, _⟩ | ⟨_, h1, _⟩ | ⟨_, _, rfl, rfl⟩
 ·omega
 ·rw [hr] at h1; cases h1
 ·exact ⟨hd.told, by rw [hd.seq]⟩
/-- what is left rests. -/
theorem came_rest {o : Or} {s : Int} {c : Bs × List Ev × Int} {n : Nat} {b' : Bs} {es' : List Ev} {d : Db} (hs : s = 1 ∨ s = 2) (h : Came o s c n b' es') (hd : Dof d c.1) (hz : 0 < c.2.2) (hr : rst o.ty = true) (p : Option Addr) (k : Nat) : Dof (d.put s p k (inO (bhO s o.pr (d.os s)) { o with vi := (shw o.pk c.2.2).1, hi := (shw o.pk c.2.2).2 } (d.os s))) b' ∧ c.2.1 = es' := by
 rcases h with ⟨h1, _⟩ | ⟨_, _, rfl, p', c', blk, _, rfl⟩ | ⟨_, h1, _⟩
 ·omega
 ·exact ⟨dof_ins hs hd p p' k c' blk { o with vi := (shw o.pk c.2.2).1, hi := (shw o.pk c.2.2).2 }, rfl⟩
 ·rw [hr] at h1; cases h1
end Go.Proofs.Ytalgndgoedlpoaa
