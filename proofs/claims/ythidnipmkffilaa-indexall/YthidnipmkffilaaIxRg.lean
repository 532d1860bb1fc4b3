/-
  A loop over All. Out of the avl tree's AwD.
-/
import Derived.Test.YthidnipmkffilaaIxZ
namespace Go.Proofs.Ythidnipmkffilaa
open Go.RowKit Go.Deep
set_option linter.unusedVariables false
set_option linter.unusedSimpArgs false
set_option maxRecDepth 100000
set_option maxHeartbeats 2000000
attribute [local go_sem] Oper.semAt_some
/-- a statement that does not see blocks which are no cells, from a place on. -/
def Blind (B : Nat) (I : World → Prop) : Prop := ∀ W W' row, I W → W.grownBy W' row → (∀ r, row = some r → B ≤ r ∧ ∃ o : Obj, W.heap[r]? = some o ∧ o.isCells = false) → I W'
theorem Blind.put {B : Nat} {I : World → Prop} (h : Blind B I) {W : World} {l : Nat} {o : Obj} (o' : Obj) (hs : I W) (hB : B ≤ l) (hl : W.heap[l]? = some o) (ho : o.isCells = false) : I (W.putObj l o') :=
  h W _ (some l) hs (grownBy_putObj' W l o') (fun r e => by cases e; exact ⟨hB, o, hl, ho⟩)
/-- how a round may be left. -/
def rpf (B : Nat) (I : List (Int × Int) → World → Prop) (Ix : Code → World → Prop) (r : List (Int × Int)) (W : World) : Exit → Act → World → Prop
  | .normal, _, W' => KeepsOthers W W' ∧ Ab B W W' ∧ I r W'
  | .ret, _, W' => KeepsOthers W W' ∧ Ix .ret W'
  | .exit id, _, W' => KeepsOthers W W' ∧ Ix (.exit id) W'
  | _, _, _ => False
theorem range_all {n : Nat} (hn : 3 ≤ n) {g : Operand} {ps : Array Tmp} {assign body : Code} {Q : Exit → Act → World → Prop} {a : Act} {w : World} {CX X P m room : Nat} {T : Ix.Tab}
    (hg : a.eval g = .func (.func 35) #[] #[.pointer (some ⟨CX, 0, none⟩)]) (hps : ps.size = 2)
    (hCX : w.cell? ⟨CX, 0, none⟩ = some (.pointer (some ⟨X, 0, none⟩))) (hL : Lx w X P m room T)
    (I : List (Int × Int) → World → Prop) (Ix : Code → World → Prop)
    (hI : ∀ r, Blind w.heap.size (I r)) (hIx : ∀ c, Blind w.heap.size (Ix c)) (hgr : ∀ r W W', I r W → Below W.heap.size W W' → I r W')
    (h0 : ∀ L : List (Int × Int), L.Perm (us T m) → L.Pairwise (fun x y => ¬ y.1 < x.1) → I L w) (a₁ : Int × Int → Act)
    (hassign : ∀ (l : Nat) (x : Int × Int) (W : World) (K : Act → World → Prop), K (a₁ x) W →
      assign.wpIn (Fence.wide.inRound l) (n - 1 - 1) Try.prog (Exit.then K (fun _ _ _ => False)) { tmps := (ps.zip #[Value.int .u64 x.1, Value.int .i64 x.2]).foldl (fun t (p, v) => t.setIfInBounds p v) a.tmps, defers := [] } W)
    (hbody : ∀ (l : Nat) (x : Int × Int) (r : List (Int × Int)) (W : World), w.heap.size + 1 < W.heap.size → I (x :: r) W → body.wpIn (Fence.wide.inRound l) (n - 1 - 1) Try.prog (rpf (w.heap.size + 2) I Ix r W) (a₁ x) W)
    (hdone : ∀ (D : Nat) (W : World), w.heap.size ≤ D → I [] W → W.heap[D]? = some (.deferred (some [])) → Q .normal { a with defers := { target := .collected D, args := #[] } :: a.defers } W)
    (hstop : ∀ (D : Nat) (c : Code) (W : World), w.heap.size ≤ D → Ix c W → W.heap[D]? = some (.deferred (some [])) → c.wpIn Fence.wide n Try.prog Q { a with defers := { target := .collected D, args := #[] } :: a.defers } W) :
    (Code.rangeFunc g ps assign body).wpIn Fence.wide n Try.prog Q a w := by
  refine wpIn_rangeFunc (fun fn hfn => ?_)
  obtain ⟨L, hL2⟩ : ∃ L : LoopState → Option Code → Loop, ∀ s p, L s p = { state := s, pending := p, fn, tmps := a.tmps, params := ps, assign, body, defers := w.heap.size } := ⟨_, fun _ _ => rfl⟩
  obtain ⟨W1, hW1⟩ : ∃ W1, (w.alloc (.deferred (some []))).alloc (.loop (L .ready none)) = W1 := ⟨_, rfl⟩
  have sz : (w.alloc (.deferred (some []))).heap.size = w.heap.size + 1 := by simp
  have bw : Below w.heap.size w W1 := by rw [← hW1]; exact ((Below.refl _ w).alloc (Nat.le_refl _) _).alloc (by simp) _
  have r1 : W1.heap[w.heap.size + 1]? = some (.loop (L .ready none)) := by
    rw [← hW1, ← sz]; exact World.alloc_heap_new _ _
  have d1 : W1.heap[w.heap.size]? = some (.deferred (some [])) := by
    rw [← hW1, Below.heap_alloc _ _ _ (by rw [sz]; omega)]; exact World.alloc_heap_new _ _
  have z1 : W1.heap.size = w.heap.size + 2 := by rw [← hW1]; simp
  refine ⟨w.heap.size + 1, [{ target := .collected w.heap.size, args := #[] }], W1, { target := .fn (.func 35) #[.pointer (some ⟨CX, 0, none⟩)], args := #[.func (.yield (w.heap.size + 1)) #[] #[]] }, W1, 35,
    #[.func (.yield (w.heap.size + 1)) #[] #[], .pointer (some ⟨CX, 0, none⟩)], W1, ?_, ?_, fun _ _ => trivial, ?_, fun _ => by omega, ?_⟩
  · rw [← hW1, hL2]; exact run_enterLoop_outer _ _ _ _ _
  · simp only [resolve, hg]
    simp [go_sem]
  · simp [invoke, go_sem, enters_of Try.func35 (by kernel_rfl) rfl _ _]
  · refine (all1_any (n - 1) (by omega) CX X P (w.heap.size + 2) (w.heap.size + 1) m room T
      (fun r W => I r W ∧ W.heap[w.heap.size + 1]? = some (.loop (L .ready none)) ∧ W.heap[w.heap.size]? = some (.deferred (some [])))
      (fun W => ∃ c, Ix c W ∧ W.heap[w.heap.size + 1]? = some (.loop (L .done (some c))) ∧ W.heap[w.heap.size]? = some (.deferred (some [])))
      (fun r W W' h k => ⟨hgr r W W' h.1 k, (k.block _ (Array.getElem?_eq_some_iff.1 h.2.1).1).trans h.2.1, (k.block _ (Array.getElem?_eq_some_iff.1 h.2.2).1).trans h.2.2⟩)
      ?_ W1
      (by rw [bw.cell (p := ⟨CX, 0, none⟩) (block_lt_of_cell hCX)]; exact hCX) (hL.kp (Kp.ofBelow (fun _ => False) bw) (fun h => h) (fun h => h)) (by omega) (fun L p q => ⟨hgr _ _ _ (h0 L p q) bw, r1, d1⟩)).mono ?_
    · rintro x r W ⟨hiW, hr, hd⟩
      have lt : w.heap.size + 1 < W.heap.size := (Array.getElem?_eq_some_iff.1 hr).1
      have hy := run_yield (P := Try.prog) (args := #[Value.int .u64 x.1, Value.int .i64 x.2]) hr (by rw [hL2]; exact hps.symm)
      rw [hL2] at hy
      refine ⟨fn, _, assign, body, hy, roundIn_of_wpIn hfn (hassign _ x W _ ⟨_, run_beginRound hr (by rw [hL2]), ?_⟩)⟩
      rw [hL2]
      have r2 : (W.putObj (w.heap.size + 1) (.loop (L .busy none))).heap[w.heap.size + 1]? = some (.loop (L .busy none)) := World.putObj_heap_same lt
      have d2 : (W.putObj (w.heap.size + 1) (.loop (L .busy none))).heap[w.heap.size]? = some (.deferred (some [])) := (World.putObj_heap_other (by omega)).trans hd
      have i2 : I (x :: r) (W.putObj (w.heap.size + 1) (.loop (L .busy none))) := (hI _).put _ hiW (by omega) hr rfl
      have ab1 : Ab (w.heap.size + 2) W (W.putObj (w.heap.size + 1) (.loop (L .busy none))) := fun k o hk ho => (World.putObj_heap_other (by omega)).trans ho
      rw [← hL2 .busy none] at *
      refine wpIn_mono (hbody _ x r _ (by simpa using lt) i2) ?_
      have ends : ∀ (W3 : World) (j : Option Code), KeepsOthers (W.putObj (w.heap.size + 1) (.loop (L .busy none))) W3 →
          W3.heap[w.heap.size + 1]? = some (.loop (L .busy none)) ∧
          (Instr.endRound (w.heap.size + 1) j).run Try.prog W3 = .ok (.bool j.isNone) (W3.putObj (w.heap.size + 1) (.loop (L (if j.isNone then .ready else .done) j))) ∧
          (W3.putObj (w.heap.size + 1) (.loop (L (if j.isNone then .ready else .done) j))).heap[w.heap.size + 1]? = some (.loop (L (if j.isNone then .ready else .done) j)) ∧
          (W3.putObj (w.heap.size + 1) (.loop (L (if j.isNone then .ready else .done) j))).heap[w.heap.size]? = some (.deferred (some [])) := by
        intro W3 j k3
        have r3 := k3.same _ _ r2 rfl
        have e3 := run_endRound (P := Try.prog) j r3
        refine ⟨r3, ?_, World.putObj_heap_same (Array.getElem?_eq_some_iff.1 r3).1, (World.putObj_heap_other (by omega)).trans (k3.same _ _ d2 rfl)⟩
        rw [e3, hL2, hL2]
      rintro e a3 W3 hp
      cases e with
      | normal =>
        obtain ⟨k3, ab3, i3⟩ := hp
        obtain ⟨r3, e3, r4, d4⟩ := ends W3 none k3
        exact ⟨_, _, e3, true, rfl, Or.inl ⟨rfl, ⟨(hI _).put _ i3 (by omega) r3 rfl, r4.trans (by rw [hL2]; rfl), d4⟩, fun k o hk ho => (World.putObj_heap_other (by omega)).trans (ab3 k o hk (ab1 k o hk ho))⟩⟩
      | ret =>
        obtain ⟨k3, i3⟩ := hp
        obtain ⟨r3, e3, r4, d4⟩ := ends W3 (some .ret) k3
        exact ⟨_, _, e3, false, rfl, Or.inr ⟨rfl, .ret, (hIx _).put _ i3 (by omega) r3 rfl, r4, d4⟩⟩
      | exit id =>
        obtain ⟨k3, i3⟩ := hp
        obtain ⟨r3, e3, r4, d4⟩ := ends W3 (some (.exit id)) k3
        exact ⟨_, _, e3, false, rfl, Or.inr ⟨rfl, .exit id, (hIx _).put _ i3 (by omega) r3 rfl, r4, d4⟩⟩
      | goto t => exact hp.elim
      | panic ch => exact hp.elim
      | outgrown => exact hp.elim
    · rintro e W2 ⟨⟨v, rfl⟩, (⟨i2, r2, d2⟩ | ⟨c, i2, r2, d2⟩)⟩
      · have e2 := run_endLoop (P := Try.prog) r2 (by rw [hL2]; simp)
        rw [hL2] at e2
        exact ⟨none, _, e2, hdone _ _ (Nat.le_refl _) ((hI _).put _ i2 (by omega) r2 rfl) ((World.putObj_heap_other (by omega)).trans d2)⟩
      · have e2 := run_endLoop (P := Try.prog) r2 (by rw [hL2]; simp)
        rw [hL2] at e2
        exact ⟨some c, _, e2, hstop _ c _ (Nat.le_refl _) ((hIx c).put _ i2 (by omega) r2 rfl) ((World.putObj_heap_other (by omega)).trans d2)⟩
end Go.Proofs.Ythidnipmkffilaa
