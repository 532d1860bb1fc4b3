/-
  A loop over All of bytes. Out of the index's IxRg; in each round the frame is boxed.
-/
import Derived.Test.YtioohpdjmamhgaaDoorWaA
namespace Go.Proofs.YtioohpdjmamhgaaDoor
open Go.RowKit Go.Deep Crc
set_option linter.unusedVariables false
set_option linter.unusedSimpArgs false
set_option maxRecDepth 100000
set_option maxHeartbeats 2000000
attribute [local go_sem] Oper.semAt_some
/-- a statement that does not see blocks which are no cells, from a place on. -/
def Blind (B : Nat) (I : World → Prop) : Prop := ∀ W W' row, I W → W.grownBy W' row → (∀ r, row = some r → B ≤ r ∧ ∃ o : Obj, W.heap[r]? = some o ∧ o.isCells = false) → I W'
theorem Blind.put {B : Nat} {I : World → Prop} (h : Blind B I) {W : World} {l : Nat} {o : Obj} (o' : Obj) (hs : I W) (hB : B ≤ l) (hl : W.heap[l]? = some o) (ho : o.isCells = false) : I (W.putObj l o') :=
  h W _ (some l) hs (grownBy_putObj' W l o') (fun r e => by cases e; exact ⟨hB, o, hl, ho⟩)
/-- how a round may be left. -/
def rpf (B : Nat) (I : List (List Nat) → World → Prop) (Ix : Code → World → Prop) (r : List (List Nat)) (W : World) : Exit → Act → World → Prop
  | .normal, _, W' => KeepsOthers W W' ∧ Ab B W W' ∧ I r W'
  | .ret, _, W' => KeepsOthers W W' ∧ Ix .ret W'
  | .exit id, _, W' => KeepsOthers W W' ∧ Ix (.exit id) W'
  | _, _, _ => False
theorem range_all {n : Nat} (hn : 3 ≤ n) {g : Operand} {ps : Array Tmp} {assign body : Code} {Q : Exit → Act → World → Prop} {a : Act} {w : World} {CX : Nat} {xs : List Nat} {v : Value}
    (hg : a.eval g = .func (.func 28) #[] #[.pointer (some ⟨CX, 0, none⟩)]) (hps : ps.size = 2)
    (hCX : w.cell? ⟨CX, 0, none⟩ = some v) (hS : Sx w v xs) (hx : Oct xs) (hlen : xs.length ≤ 140737488351232)
    (I : List (List Nat) → World → Prop) (Ix : Code → World → Prop)
    (hI : ∀ r, Blind w.heap.size (I r)) (hIx : ∀ c, Blind w.heap.size (Ix c)) (hgr : ∀ r W W', I r W → Below W.heap.size W W' → I r W')
    (hLd : ∀ r W, I r W → Laid W) (h0 : I (chs xs) w) (a₁ : World → Value → Int → Act) (ob : Value → Int → Obj)
    (hassign : ∀ (l : Nat) (c : List Nat) (V : Value) (E : Int) (W : World) (K : Act → World → Prop), UnpR c V E → K (a₁ W V E) (W.alloc (ob V E)) →
      assign.wpIn (Fence.wide.inRound l) (n - 1 - 1) Tryd.prog (Exit.then K (fun _ _ _ => False)) { tmps := (ps.zip #[V, Value.int .i64 E]).foldl (fun t (p, v) => t.setIfInBounds p v) a.tmps, defers := [] } W)
    (hbody : ∀ (l : Nat) (c : List Nat) (V : Value) (E : Int) (r : List (List Nat)) (W0 W : World), w.heap.size + 1 < W0.heap.size → UnpR c V E → I (c :: r) W → W.heap[W0.heap.size]? = some (ob V E) → body.wpIn (Fence.wide.inRound l) (n - 1 - 1) Tryd.prog (rpf (w.heap.size + 2) I Ix r W) (a₁ W0 V E) W)
    (hdone : ∀ (D : Nat) (W : World), w.heap.size ≤ D → I [] W → W.heap[D]? = some (.deferred (some [])) → Q .normal { a with defers := { target := .collected D, args := #[] } :: a.defers } W)
    (hstop : ∀ (D : Nat) (c : Code) (W : World), w.heap.size ≤ D → Ix c W → W.heap[D]? = some (.deferred (some [])) → c.wpIn Fence.wide n Tryd.prog Q { a with defers := { target := .collected D, args := #[] } :: a.defers } W) :
    (Code.rangeFunc g ps assign body).wpIn Fence.wide n Tryd.prog Q a w := by
  refine wpIn_rangeFunc (fun fn hfn => ?_)
  obtain ⟨L, hL2⟩ : ∃ L : LoopState → Option Code → Loop, ∀ s p, L s p = { state := s, pending := p, fn, tmps := a.tmps, params := ps, assign, body, defers := w.heap.size } := ⟨_, fun _ _ => rfl⟩
  obtain ⟨W1, hW1⟩ : ∃ W1, (w.alloc (.deferred (some []))).alloc (.loop (L .ready none)) = W1 := ⟨_, rfl⟩
  have sz : (w.alloc (.deferred (some []))).heap.size = w.heap.size + 1 := by simp
  have bw : Below w.heap.size w W1 := by rw [← hW1]; exact ((Below.refl _ w).alloc (Nat.le_refl _) _).alloc (by simp) _
  have r1 : W1.heap[w.heap.size + 1]? = some (.loop (L .ready none)) := by
    rw [← hW1, ← sz]; exact World.alloc_heap_new _ _
  have d1 : W1.heap[w.heap.size]? = some (.deferred (some [])) := by
    rw [← hW1, Below.heap_alloc _ _ _ (by rw [sz]; omega)]; exact World.alloc_heap_new _ _
  have z1 : W1.heap.size = w.heap.size + 2 := by rw [← hW1]; simp
  refine ⟨w.heap.size + 1, [{ target := .collected w.heap.size, args := #[] }], W1, { target := .fn (.func 28) #[.pointer (some ⟨CX, 0, none⟩)], args := #[.func (.yield (w.heap.size + 1)) #[] #[]] }, W1, 28,
    #[.func (.yield (w.heap.size + 1)) #[] #[], .pointer (some ⟨CX, 0, none⟩)], W1, ?_, ?_, fun _ _ => trivial, ?_, fun _ => by omega, ?_⟩
  · rw [← hW1, hL2]; exact run_enterLoop_outer _ _ _ _ _
  · simp only [resolve, hg]
    simp [go_sem]
  · simp [invoke, go_sem, enters_of Tryd.func28 (by kernel_rfl) rfl _ _]
  · refine (all1_any (n - 1) (by omega) CX (w.heap.size + 2) (w.heap.size + 1) xs v
      (fun r W => I r W ∧ W.heap[w.heap.size + 1]? = some (.loop (L .ready none)) ∧ W.heap[w.heap.size]? = some (.deferred (some [])))
      (fun W => ∃ c, Ix c W ∧ W.heap[w.heap.size + 1]? = some (.loop (L .done (some c))) ∧ W.heap[w.heap.size]? = some (.deferred (some [])))
      (fun r W W' h k => ⟨hgr r W W' h.1 k, (k.block _ (Array.getElem?_eq_some_iff.1 h.2.1).1).trans h.2.1, (k.block _ (Array.getElem?_eq_some_iff.1 h.2.2).1).trans h.2.2⟩) (fun r W h => hLd r W h.1)
      ?_ W1
      (by rw [bw.cell (p := ⟨CX, 0, none⟩) (block_lt_of_cell hCX)]; exact hCX) (hS.to bw) hx hlen (by omega) ⟨hgr _ _ _ h0 bw, r1, d1⟩).mono ?_
    · rintro c r V E W0 ⟨hiW0, hr0, hd0⟩ hU
      have lt0 : w.heap.size + 1 < W0.heap.size := (Array.getElem?_eq_some_iff.1 hr0).1
      have hy := run_yield (P := Tryd.prog) (args := #[V, Value.int .i64 E]) hr0 (by rw [hL2]; exact hps.symm)
      rw [hL2] at hy
      have bA : Below W0.heap.size W0 (W0.alloc (ob V E)) := (Below.refl _ W0).alloc (Nat.le_refl _) _
      have hr := (bA.block _ lt0).trans hr0
      have hd := (bA.block _ (Array.getElem?_eq_some_iff.1 hd0).1).trans hd0
      have hiW := hgr _ _ _ hiW0 bA
      have hob : (W0.alloc (ob V E)).heap[W0.heap.size]? = some (ob V E) := World.alloc_heap_new _ _
      have abA : Ab (w.heap.size + 2) W0 (W0.alloc (ob V E)) := fun k o hk ho => (bA.block _ (Array.getElem?_eq_some_iff.1 ho).1).trans ho
      refine ⟨fn, _, assign, body, hy, roundIn_of_wpIn hfn (hassign _ c V E W0 _ hU ⟨_, run_beginRound hr (by rw [hL2]), ?_⟩)⟩
      obtain ⟨W, hW⟩ : ∃ W, W0.alloc (ob V E) = W := ⟨_, rfl⟩
      rw [hW] at hr hd hiW hob abA ⊢
      have lt : w.heap.size + 1 < W.heap.size := (Array.getElem?_eq_some_iff.1 hr).1
      rw [hL2]
      have r2 : (W.putObj (w.heap.size + 1) (.loop (L .busy none))).heap[w.heap.size + 1]? = some (.loop (L .busy none)) := World.putObj_heap_same lt
      have d2 : (W.putObj (w.heap.size + 1) (.loop (L .busy none))).heap[w.heap.size]? = some (.deferred (some [])) := (World.putObj_heap_other (by omega)).trans hd
      have i2 : I (c :: r) (W.putObj (w.heap.size + 1) (.loop (L .busy none))) := (hI _).put _ hiW (by omega) hr rfl
      have o2 : (W.putObj (w.heap.size + 1) (.loop (L .busy none))).heap[W0.heap.size]? = some (ob V E) := (World.putObj_heap_other (by omega)).trans hob
      have ab1 : Ab (w.heap.size + 2) W0 (W.putObj (w.heap.size + 1) (.loop (L .busy none))) := fun k o hk ho => (World.putObj_heap_other (by omega)).trans (abA k o hk ho)
      rw [← hL2 .busy none] at *
      refine wpIn_mono (hbody _ c V E r W0 _ lt0 hU i2 o2) ?_
      have ends : ∀ (W3 : World) (j : Option Code), KeepsOthers (W.putObj (w.heap.size + 1) (.loop (L .busy none))) W3 →
          W3.heap[w.heap.size + 1]? = some (.loop (L .busy none)) ∧
          (Instr.endRound (w.heap.size + 1) j).run Tryd.prog W3 = .ok (.bool j.isNone) (W3.putObj (w.heap.size + 1) (.loop (L (if j.isNone then .ready else .done) j))) ∧
          (W3.putObj (w.heap.size + 1) (.loop (L (if j.isNone then .ready else .done) j))).heap[w.heap.size + 1]? = some (.loop (L (if j.isNone then .ready else .done) j)) ∧
          (W3.putObj (w.heap.size + 1) (.loop (L (if j.isNone then .ready else .done) j))).heap[w.heap.size]? = some (.deferred (some [])) := by
        intro W3 j k3
        have r3 := k3.same _ _ r2 rfl
        have e3 := run_endRound (P := Tryd.prog) j r3
        refine ⟨r3, ?_, World.putObj_heap_same (Array.getElem?_eq_some_iff.1 r3).1, (World.putObj_heap_other (by omega)).trans (k3.same _ _ d2 rfl)⟩
        rw [e3, hL2, hL2]
      rintro e a3 W3 hp
      cases e with
      | normal =>
        obtain ⟨k3, ab3, i3⟩ := hp
        obtain ⟨r3, e3, r4, d4⟩ := ends W3 none k3
        exact ⟨_, _, e3, true, rfl, Or.inl ⟨rfl, ⟨(hI _).put _ i3 (by omega) r3 rfl, r4.trans (by rw [hL2]; rfl), d4⟩, fun k o hk ho => (World.putObj_heap_other (by omega)).trans (ab3 k o hk (ab1 k o hk ho))⟩⟩
      | ret =>
        obtain ⟨k3, i3⟩ := hp
        obtain ⟨r3, e3, r4, d4⟩ := ends W3 (some .ret) k3
        exact ⟨_, _, e3, false, rfl, Or.inr ⟨rfl, .ret, (hIx _).put _ i3 (by omega) r3 rfl, r4, d4⟩⟩
      | exit id =>
        obtain ⟨k3, i3⟩ := hp
        obtain ⟨r3, e3, r4, d4⟩ := ends W3 (some (.exit id)) k3
        exact ⟨_, _, e3, false, rfl, Or.inr ⟨rfl, .exit id, (hIx _).put _ i3 (by omega) r3 rfl, r4, d4⟩⟩
      | goto t => exact hp.elim
      | panic ch => exact hp.elim
      | outgrown => exact hp.elim
    · rintro e W2 ⟨⟨v9, rfl⟩, (⟨i2, r2, d2⟩ | ⟨c, i2, r2, d2⟩)⟩
      · have e2 := run_endLoop (P := Tryd.prog) r2 (by rw [hL2]; simp)
        rw [hL2] at e2
        exact ⟨none, _, e2, hdone _ _ (Nat.le_refl _) ((hI _).put _ i2 (by omega) r2 rfl) ((World.putObj_heap_other (by omega)).trans d2)⟩
      · have e2 := run_endLoop (P := Tryd.prog) r2 (by rw [hL2]; simp)
        rw [hL2] at e2
        exact ⟨some c, _, e2, hstop _ c _ (Nat.le_refl _) ((hIx c).put _ i2 (by omega) r2 rfl) ((World.putObj_heap_other (by omega)).trans d2)⟩
end Go.Proofs.YtioohpdjmamhgaaDoor
