/-
  A loop over a map's own words: one's own law, for the bound method value.
-/
import Derived.Test.YtcbfgodknonefaaDoorBmG
namespace Go.Proofs.YtcbfgodknonefaaDoor
open Go.RowKit Go.Deep Bt
set_option linter.unusedVariables false
set_option maxRecDepth 100000
set_option maxHeartbeats 2000000

/-- how a round may be left. -/
def rp (I : Nat → World → Prop) (Ix : Code → World → Prop) (i : Nat) (W : World) : Exit → Act → World → Prop
  | .normal, _, W' => KeepsOthers W W' ∧ I (i + 1) W'
  | .ret, _, W' => KeepsOthers W W' ∧ Ix .ret W'
  | .exit id, _, W' => KeepsOthers W W' ∧ Ix (.exit id) W'
  | _, _, _ => False
/-- a statement that does not see blocks which are no cells, from a place on. -/
def Blind (B : Nat) (I : World → Prop) : Prop := ∀ W W' row, I W → W.grownBy W' row → (∀ r, row = some r → B ≤ r ∧ ∃ o : Obj, W.heap[r]? = some o ∧ o.isCells = false) → I W'
theorem Blind.put {B : Nat} {I : World → Prop} (h : Blind B I) {W : World} {l : Nat} {o : Obj} (o' : Obj) (hs : I W) (hB : B ≤ l) (hl : W.heap[l]? = some o) (ho : o.isCells = false) : I (W.putObj l o') :=
  h W _ (some l) hs (grownBy_putObj' W l o') (fun r e => by cases e; exact ⟨hB, o, hl, ho⟩)

theorem range_words {n : Nat} (hn : 3 ≤ n) {g : Operand} {ps : Array Tmp} {assign body : Code} {Q : Exit → Act → World → Prop} {a : Act} {w : World} {b : Nat} {S : Nat → Bool}
    (hg : a.eval g = .func (.func 46) #[.pointer (some ⟨b, 0, none⟩)] #[]) (hps : ps.size = 1) (I : Nat → World → Prop) (Ix : Code → World → Prop)
    (hB : ∀ i W, I i W → Bm W b S ∧ Laid W) (hs : ∀ i W, i < 4096 → lo S i = 0 → I i W → I (i + 1) W)
    (hI : ∀ i, Blind w.heap.size (I i)) (hIx : ∀ c, Blind w.heap.size (Ix c)) (hal : ∀ W o, I 0 W → I 0 (W.alloc o)) (h0 : I 0 w) (a₁ : Nat → Act)
    (hassign : ∀ (l i : Nat) (W : World) (K : Act → World → Prop), K (a₁ i) W →
      assign.wpIn (Fence.wide.inRound l) (n - 1 - 1) Tryd.prog (Exit.then K (fun _ _ _ => False)) { tmps := (ps.zip #[Value.int .i64 (i : Int)]).foldl (fun t (p, v) => t.setIfInBounds p v) a.tmps, defers := [] } W)
    (hbody : ∀ (l i : Nat) (W : World), i < 4096 → lo S i ≠ 0 → I i W → body.wpIn (Fence.wide.inRound l) (n - 1 - 1) Tryd.prog (rp I Ix i W) (a₁ i) W)
    (hdone : ∀ (D : Nat) (W : World), w.heap.size ≤ D → I 4096 W → W.heap[D]? = some (.deferred (some [])) → Q .normal { a with defers := { target := .collected D, args := #[] } :: a.defers } W)
    (hstop : ∀ (D : Nat) (c : Code) (W : World), w.heap.size ≤ D → Ix c W → W.heap[D]? = some (.deferred (some [])) → c.wpIn Fence.wide n Tryd.prog Q { a with defers := { target := .collected D, args := #[] } :: a.defers } W) :
    (Code.rangeFunc g ps assign body).wpIn Fence.wide n Tryd.prog Q a w := by
  refine wpIn_rangeFunc (fun fn hfn => ?_)
  -- the record, ready, busy or left
  obtain ⟨L, hL⟩ : ∃ L : LoopState → Option Code → Loop, ∀ s p, L s p = { state := s, pending := p, fn, tmps := a.tmps, params := ps, assign, body, defers := w.heap.size } := ⟨_, fun _ _ => rfl⟩
  obtain ⟨B, hBdef⟩ : ∃ B, B = w.heap.size := ⟨_, rfl⟩
  obtain ⟨W1, hW1⟩ : ∃ W1, (w.alloc (.deferred (some []))).alloc (.loop (L .ready none)) = W1 := ⟨_, rfl⟩
  have sz : (w.alloc (.deferred (some []))).heap.size = w.heap.size + 1 := by simp
  have r1 : W1.heap[w.heap.size + 1]? = some (.loop (L .ready none)) := by
    rw [← hW1, ← sz]; exact World.alloc_heap_new _ _
  have d1 : W1.heap[w.heap.size]? = some (.deferred (some [])) := by
    rw [← hW1, Below.heap_alloc _ _ _ (by rw [sz]; omega)]; exact World.alloc_heap_new _ _
  have i1 : I 0 W1 := by rw [← hW1]; exact hal _ _ (hal _ _ h0)
  refine ⟨w.heap.size + 1, [{ target := .collected w.heap.size, args := #[] }], W1, { target := .fn (.func 46) #[], args := #[.pointer (some ⟨b, 0, none⟩), .func (.yield (w.heap.size + 1)) #[] #[]] }, W1, 46,
    #[.pointer (some ⟨b, 0, none⟩), .func (.yield (w.heap.size + 1)) #[] #[]], W1, ?_, ?_, fun _ _ => trivial, ?_, fun _ => by omega, ?_⟩
  · rw [← hW1, hL]; exact run_enterLoop_outer _ _ _ _ _
  · simp only [resolve, hg]
    simp [go_sem]
  · simp [invoke, go_sem, enters_of Tryd.func46 (by kernel_rfl) rfl _ _]
  · refine (words_in (n - 1) (by omega) b S (w.heap.size + 1)
      (fun i W => I i W ∧ W.heap[w.heap.size + 1]? = some (.loop (L .ready none)) ∧ W.heap[w.heap.size]? = some (.deferred (some [])))
      (fun W => ∃ c, Ix c W ∧ W.heap[w.heap.size + 1]? = some (.loop (L .done (some c))) ∧ W.heap[w.heap.size]? = some (.deferred (some [])))
      (fun i W h => hB i W h.1) (fun i W hi hz h => ⟨hs i W hi hz h.1, h.2⟩) ?_ W1 ⟨i1, r1, d1⟩).mono ?_
    · rintro i W hi hlo ⟨hiW, hr, hd⟩
      have lt : w.heap.size + 1 < W.heap.size := (Array.getElem?_eq_some_iff.1 hr).1
      have hy := run_yield (P := Tryd.prog) (args := #[Value.int .i64 (i : Int)]) hr (by rw [hL]; exact hps.symm)
      rw [hL] at hy
      refine ⟨fn, _, assign, body, hy, roundIn_of_wpIn hfn (hassign _ i W _ ⟨_, run_beginRound hr (by rw [hL]), ?_⟩)⟩
      rw [hL]
      have r2 : (W.putObj (w.heap.size + 1) (.loop (L .busy none))).heap[w.heap.size + 1]? = some (.loop (L .busy none)) := World.putObj_heap_same lt
      have d2 : (W.putObj (w.heap.size + 1) (.loop (L .busy none))).heap[w.heap.size]? = some (.deferred (some [])) := (World.putObj_heap_other (by omega)).trans hd
      have i2 : I i (W.putObj (w.heap.size + 1) (.loop (L .busy none))) := (hI i).put _ hiW (by omega) hr rfl
      rw [← hL .busy none] at *
      refine wpIn_mono (hbody _ i _ hi hlo i2) ?_
      have ends : ∀ (W3 : World) (j : Option Code), KeepsOthers (W.putObj (w.heap.size + 1) (.loop (L .busy none))) W3 →
          W3.heap[w.heap.size + 1]? = some (.loop (L .busy none)) ∧
          (Instr.endRound (w.heap.size + 1) j).run Tryd.prog W3 = .ok (.bool j.isNone) (W3.putObj (w.heap.size + 1) (.loop (L (if j.isNone then .ready else .done) j))) ∧
          (W3.putObj (w.heap.size + 1) (.loop (L (if j.isNone then .ready else .done) j))).heap[w.heap.size + 1]? = some (.loop (L (if j.isNone then .ready else .done) j)) ∧
          (W3.putObj (w.heap.size + 1) (.loop (L (if j.isNone then .ready else .done) j))).heap[w.heap.size]? = some (.deferred (some [])) := by
        intro W3 j k3
        have r3 := k3.same _ _ r2 rfl
        have e3 := run_endRound (P := Tryd.prog) j r3
        refine ⟨r3, ?_, World.putObj_heap_same (Array.getElem?_eq_some_iff.1 r3).1, (World.putObj_heap_other (by omega)).trans (k3.same _ _ d2 rfl)⟩
        rw [e3, hL, hL]
      rintro e a3 W3 hp
      cases e with
      | normal =>
        obtain ⟨k3, i3⟩ := hp
        obtain ⟨r3, e3, r4, d4⟩ := ends W3 none k3
        exact ⟨_, _, e3, Or.inl ⟨rfl, (hI _).put _ i3 (by omega) r3 rfl, r4.trans (by rw [hL]; rfl), d4⟩⟩
      | ret =>
        obtain ⟨k3, i3⟩ := hp
        obtain ⟨r3, e3, r4, d4⟩ := ends W3 (some .ret) k3
        exact ⟨_, _, e3, Or.inr ⟨rfl, .ret, (hIx _).put _ i3 (by omega) r3 rfl, r4, d4⟩⟩
      | exit id =>
        obtain ⟨k3, i3⟩ := hp
        obtain ⟨r3, e3, r4, d4⟩ := ends W3 (some (.exit id)) k3
        exact ⟨_, _, e3, Or.inr ⟨rfl, .exit id, (hIx _).put _ i3 (by omega) r3 rfl, r4, d4⟩⟩
      | goto t => exact hp.elim
      | panic ch => exact hp.elim
      | outgrown => exact hp.elim
    · rintro e W2 ⟨⟨v, rfl⟩, (⟨i2, r2, d2⟩ | ⟨c, i2, r2, d2⟩)⟩
      · have e2 := run_endLoop (P := Tryd.prog) r2 (by rw [hL]; simp)
        rw [hL] at e2
        exact ⟨none, _, e2, hdone _ _ (Nat.le_refl _) ((hI _).put _ i2 (by omega) r2 rfl) ((World.putObj_heap_other (by omega)).trans d2)⟩
      · have e2 := run_endLoop (P := Tryd.prog) r2 (by rw [hL]; simp)
        rw [hL] at e2
        exact ⟨some c, _, e2, hstop _ c _ (Nat.le_refl _) ((hIx c).put _ i2 (by omega) r2 rfl) ((World.putObj_heap_other (by omega)).trans d2)⟩
end Go.Proofs.YtcbfgodknonefaaDoor
