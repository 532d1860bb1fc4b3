/-
  ArenaLives: the walk.
-/
import Derived.Test.YtecalelfofgfpaaArG
namespace Go.Proofs.Ytecalelfofgfpaa
open Go.RowKit Go.Deep Go.Maps
set_option linter.unusedVariables false
set_option linter.unusedSimpArgs false

theorem nA34 : ∀ c t, Mine t → ¬ MT 34 (.cells c t (0, 0)) := by
  rintro c t ht ⟨c', fr, e⟩
  simp at e
  exact n34 (e.2.1 ▸ ht)
theorem nA32 : ∀ c t, Mine t → ¬ MT 32 (.cells c t (0, 0)) := by
  rintro c t ht ⟨c', fr, e⟩
  simp at e
  have h := e.2.1 ▸ ht
  revert h
  unfold Mine
  decide
theorem nAM : ∀ c t, Mine t → ¬ MM (.cells c t (0, 0)) := by
  rintro c t ht ⟨es, cl, e⟩
  simp at e
theorem nTM (t : TypeId) : ∀ es cl, ¬ MT t (.map es cl) := by
  rintro es cl ⟨c, fr, e⟩
  simp at e
theorem nMAM : ∀ es cl, ¬ MA (.map es cl) := by
  rintro es cl ⟨c, t, fr, e, _⟩
  simp at e
theorem nMAc (t : TypeId) (ht : ¬ Mine t) : ∀ c, ¬ MA (.cells c t (0, 0)) := by
  rintro c ⟨c', t', fr, e, hm⟩
  simp at e
  exact ht (e.2.1 ▸ hm)
theorem nMMc (t : TypeId) : ∀ c, ¬ MM (.cells c t (0, 0)) := by
  rintro c ⟨es, cl, e⟩
  simp at e
theorem nT (t u : TypeId) (h : ¬ u = t) : ∀ c, ¬ MT t (.cells c u (0, 0)) := by
  rintro c ⟨c', fr, e⟩
  simp at e
  exact h e.2.1
theorem n32 : ¬ Mine 32 := by unfold Mine; decide
/-- what stands between two rounds. -/
structure LvM (W : World) (A B room n : Nat) (T : List (Nat × Nat)) (F : List Nat) (s : ArS) (tv sv : Value) (nx : Nat) (w : World) : Prop where
  ar : Ar W.heap.size w A s
  lv : Lv room s T F
  ow : OwH W.heap.size w tv T
  st : OwU W.heap.size w sv (stk s F)
  mp : Fm w B n (lifeAt s)
  low : W.heap.size ≤ B
  nx : nx = s.bs.length
  bel : Below W.heap.size W w
theorem LvM.on {W : World} {A B room n : Nat} {T : List (Nat × Nat)} {F : List Nat} {s : ArS} {tv sv : Value} {nx : Nat} {w w' : World} (h : LvM W A B room n T F s tv sv nx w) (hb : Below w.heap.size w w') : LvM W A B room n T F s tv sv nx w' :=
  ⟨h.ar.on hb, h.lv, own_on h.ow hb, own_on h.st hb, h.mp.on hb, h.low, h.nx, btrB h.bel h.bel.size hb⟩
theorem stk_len (s : ArS) (F : List Nat) : (stk s F).length = F.length := by simp [stk]
theorem LvM.full {W : World} {A B room n : Nat} {T : List (Nat × Nat)} {F : List Nat} {s : ArS} {tv sv : Value} {nx : Nat} {w : World} (h : LvM W A B room n T F s tv sv nx w) (hr : room ≤ 65536) (ht : T.length = room) (v : Int) :
    Calls Try.prog 15 #[.pointer (some ⟨A, 0, none⟩), .int .i64 v] w fun e w' => e = .returned (.tuple #[.agg #[.int .u32 0, .int .u32 0], .int .i64 51]) ∧ LvM W A B room n T F s tv sv nx w' := by
  refine (take_full h.ar v (by rw [h.lv.tk, ht, h.lv.room]) (by rw [h.lv.room]; exact hr)).mono ?_
  rintro e w' ⟨rfl, hb⟩
  exact ⟨rfl, h.on hb⟩
theorem Lv.fr {room : Nat} {s : ArS} {T : List (Nat × Nat)} {F : List Nat} (h : Lv room s T F) : ∀ b, s.fr = some b → b ∈ s.bs := by
  intro b hb
  have hc := h.ch
  rw [hb] at hc
  cases F with
  | nil => exact absurd hc (by simp [Ch])
  | cons c F => obtain ⟨rfl, _⟩ := hc; exact (h.fre b List.mem_cons_self).1
theorem Lv.small {room : Nat} {s : ArS} {T : List (Nat × Nat)} {F : List Nat} (h : Lv room s T F) : T.length ≤ s.bs.length ∧ F.length ≤ s.bs.length := by
  have := h.len
  omega
/-- behind a take: the slices, the map as they were, the arena further on. -/
structure LvT (W : World) (A B room n : Nat) (T : List (Nat × Nat)) (F F' : List Nat) (s s' : ArS) (tv sv : Value) (nx i l : Nat) (w : World) : Prop where
  ar : Ar W.heap.size w A s'
  lv : Lv room s' (T ++ [(i, (l + 1) % 4294967296)]) F'
  ow : OwH W.heap.size w tv T
  st : OwU W.heap.size w sv (stk s F)
  mp : Fm w B n (lifeAt s)
  low : W.heap.size ≤ B
  nx : nx = s.bs.length
  bel : Below W.heap.size W w
  hl : l = lifeAt s i
  ll : l < 4294967296
  lf : lifeAt s' = updN (lifeAt s) i ((l + 1) % 4294967296)
  way : (stk s F = stk s' F' ++ [i] ∧ s'.bs.length = s.bs.length) ∨ (stk s F = [] ∧ stk s' F' = [] ∧ i = s.bs.length ∧ s'.bs.length = s.bs.length + 1)
  il : i ≤ 65536
theorem LvT.on {W : World} {A B room n : Nat} {T : List (Nat × Nat)} {F F' : List Nat} {s s' : ArS} {tv sv : Value} {nx i l : Nat} {w w' : World} (h : LvT W A B room n T F F' s s' tv sv nx i l w) (hb : Below w.heap.size w w') : LvT W A B room n T F F' s s' tv sv nx i l w' :=
  ⟨h.ar.on hb, h.lv, own_on h.ow hb, own_on h.st hb, h.mp.on hb, h.low, h.nx, btrB h.bel h.bel.size hb, h.hl, h.ll, h.lf, h.way, h.il⟩
theorem LvM.take {W : World} {A B room n : Nat} {T : List (Nat × Nat)} {F : List Nat} {s : ArS} {tv sv : Value} {nx : Nat} {w : World} (h : LvM W A B room n T F s tv sv nx w) (hr : room ≤ 65536) (hs : s.bs.length ≤ 65536) (ht : T.length < room) (v : Int) :
    Calls Try.prog 15 #[.pointer (some ⟨A, 0, none⟩), .int .i64 v] w fun e w' => ∃ i l lf F' s', e = .returned (.tuple #[.agg #[.int .u32 (i : Nat), .int .u32 (lf : Nat)], .int .i64 0]) ∧ lf = (l + 1) % 4294967296 ∧ LvT W A B room n T F F' s s' tv sv nx i l w' := by
  refine (take_any h.ar v (by rw [h.lv.tk, h.lv.room]; exact ht) (by rw [h.lv.room]; exact hr) h.lv.fr hs).mono ?_
  rintro e w' ⟨b, s1, hsp, hb1, rfl, har, hkp⟩
  obtain ⟨i, F', e1, e2, e3, e4, e5, e6⟩ := lv_take h.lv h.ar.wf hsp v
  refine ⟨i, lifeAt s i, (lifeAt s i + 1) % 4294967296, F', s1.took b v, by rw [e1, e2], rfl, ⟨har, e4, hkp.fx.own h.ow (nMAc 34 n34), hkp.fx.own h.st (nMAc 32 n32), h.mp.fx hkp.fx nMAM, h.low, h.nx, h.bel.trans hkp.bel, rfl, e3, e5, ?_, ?_⟩⟩
  · rcases e6 with ⟨a1, a2, a3⟩ | ⟨a1, a2, a3, a4⟩
    · exact Or.inl ⟨a1, by rw [a2]⟩
    · subst a1 a2; exact Or.inr ⟨rfl, rfl, a3, a4⟩
  · rcases e6 with ⟨a1, a2, a3⟩ | ⟨a1, a2, a3, a4⟩
    · omega
    · omega
theorem LvM.drop {W : World} {A B room n : Nat} {T : List (Nat × Nat)} {F : List Nat} {s : ArS} {tv sv : Value} {nx : Nat} {w : World} (h : LvM W A B room n T F s tv sv nx w) (hr : room ≤ 65536) (hs : s.bs.length ≤ 65536) (i l : Nat) (hm : (i, l) ∈ T) (ht : T.length ≤ room) {tv' : Value} (ho : OwH W.heap.size w tv' (wout T i l)) :
    Calls Try.prog 21 #[.pointer (some ⟨A, 0, none⟩), .agg #[.int .u32 i, .int .u32 l]] w fun e w' => ∃ F' s', e = .returned (.int .i64 0) ∧ Kp W.heap.size w w' ∧ OwU W.heap.size w' sv (stk s F) ∧ stk s' F' = stk s F ++ [i] ∧ Ar W.heap.size w' A s' ∧ Lv room s' (wout T i l) F' ∧ OwH W.heap.size w' tv' (wout T i l) ∧ Fm w' B n (lifeAt s') ∧ s'.bs.length = s.bs.length := by
  obtain ⟨b, hat⟩ := (h.lv.mem i l).1 hm
  have hb := ArS.at_mem hat
  have htl : 1 ≤ T.length := List.length_pos_of_mem hm
  obtain ⟨e1, e2, e3⟩ := lv_drop h.lv h.ar.wf hm hat
  refine (drop_any h.ar hs i l b hat (h.lv.q b hb.1) (by rw [h.lv.tk]; exact htl) (by rw [h.lv.tk]; omega)).mono ?_
  rintro e w' ⟨rfl, har, hkp⟩
  exact ⟨b :: F, s.gone b, rfl, hkp, hkp.fx.own h.st (nMAc 32 n32), e3, har, e1, hkp.fx.own ho (nMAc 34 n34), by rw [e2]; exact h.mp.fx hkp.fx nMAM, rfl⟩
end Go.Proofs.Ytecalelfofgfpaa
