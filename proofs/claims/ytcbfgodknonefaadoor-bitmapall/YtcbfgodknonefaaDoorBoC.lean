/-
  Three pairs, whatever is done.
-/
import Derived.Test.YtcbfgodknonefaaDoorBnQ
import Derived.Test.YtcbfgodknonefaaDoorBoB
namespace Go.Proofs.YtcbfgodknonefaaDoor
open Go.RowKit Go.Deep Bt
set_option linter.unusedVariables false
set_option maxRecDepth 100000
set_option maxHeartbeats 1000000

/-- a pair: a map's block and its ticks, the document's list. -/
structure Pr where
  b : Nat
  S : Nat → Bool
  p : Option Addr
  c : Nat
  l : List Int
def rowX (F : Nat → Pr) : Array Value := #[.pointer (some ⟨(F 0).b, 0, none⟩), .slice (F 0).p (F 0).l.length (F 0).c, .pointer (some ⟨(F 1).b, 0, none⟩), .slice (F 1).p (F 1).l.length (F 1).c, .pointer (some ⟨(F 2).b, 0, none⟩), .slice (F 2).p (F 2).l.length (F 2).c]
def updP (F : Nat → Pr) (k : Nat) (r : Pr) : Nat → Pr := fun i => if i = k then r else F i
theorem updP_same (F : Nat → Pr) (k : Nat) (r : Pr) : updP F k r k = r := by simp [updP]
theorem updP_other (F : Nat → Pr) (k i : Nat) (r : Pr) (h : i ≠ k) : updP F k r i = F i := by simp [updP, h]
theorem rowX_p (F : Nat → Pr) (k : Nat) (hk : k < 3) : (rowX F)[k * 2]? = some (.pointer (some ⟨(F k).b, 0, none⟩)) := by
  obtain rfl | rfl | rfl : k = 0 ∨ k = 1 ∨ k = 2 := by omega
  · rfl
  · rfl
  · rfl
theorem rowX_s (F : Nat → Pr) (k : Nat) (hk : k < 3) : (rowX F)[k * 2 + 1]? = some (.slice (F k).p (F k).l.length (F k).c) := by
  obtain rfl | rfl | rfl : k = 0 ∨ k = 1 ∨ k = 2 := by omega
  · rfl
  · rfl
  · rfl
theorem rowX_set (F : Nat → Pr) (k : Nat) (hk : k < 3) (r : Pr) (hb : r.b = (F k).b) : (rowX F).setIfInBounds (k * 2 + 1) (.slice r.p r.l.length r.c) = rowX (updP F k r) := by
  obtain rfl | rfl | rfl : k = 0 ∨ k = 1 ∨ k = 2 := by omega
  all_goals
    unfold rowX updP
    simp [hb]
theorem rowX_set2 (F : Nat → Pr) (k : Nat) (hk : k < 3) (r : Pr) : ((rowX F).setIfInBounds (k * 2) (.pointer (some ⟨r.b, 0, none⟩))).setIfInBounds (k * 2 + 1) (.slice r.p r.l.length r.c) = rowX (updP F k r) := by
  obtain rfl | rfl | rfl : k = 0 ∨ k = 1 ∨ k = 2 := by omega
  all_goals
    unfold rowX updP
    simp
structure Aw (w : World) (X : Nat) (F : Nat → Pr) (W : World) : Prop where
  row : W.heap[X]? = some (.cells (rowX F) 33 (0, 0))
  tl : ∀ i, i < 3 → (F i).l = Go.Proofs.YtcbfgodknonefaaDoor.tl (F i).S
  bm : ∀ i, i < 3 → Bm W (F i).b (F i).S
  lr : ∀ i, i < 3 → Lr W (F i).p (F i).l
  fo : ∀ i, i < 3 → Fo (F i).p (F i).l.length (F i).c
  ne : ∀ i j, i < 3 → j < 3 → i ≠ j → (F i).b ≠ (F j).b
  bx : ∀ i, i < 3 → (F i).b ≠ X ∧ w.heap.size ≤ (F i).b
  lg : ∀ i, i < 3 → ∀ g, (F i).p = some ⟨g, 0, none⟩ → g ≠ X ∧ g < W.heap.size ∧ ∀ j, j < 3 → g ≠ (F j).b
  xx : w.heap.size ≤ X
  bel : Below w.heap.size w W
theorem Aw.lt {w : World} {X : Nat} {F : Nat → Pr} {W : World} (h : Aw w X F W) : X < W.heap.size := (Array.getElem?_eq_some_iff.1 h.row).1
theorem Aw.cells {w : World} {X : Nat} {F : Nat → Pr} {W : World} (h : Aw w X F W) (k : Nat) (hk : k < 3) : W.cell? ⟨X, k * 2, none⟩ = some (.pointer (some ⟨(F k).b, 0, none⟩)) ∧ W.cell? ⟨X, k * 2 + 1, none⟩ = some (.slice (F k).p (F k).l.length (F k).c) := by
  rw [row_cell h.row, row_cell h.row]
  exact ⟨rowX_p F k hk, rowX_s F k hk⟩
/-- blocks that matter stay. -/
theorem Aw.same {w : World} {X : Nat} {F : Nat → Pr} {W W' : World} (h : Aw w X F W) (hs : W.heap.size ≤ W'.heap.size) (hb : Below w.heap.size w W') (e : ∀ j, j < W.heap.size → W'.heap[j]? = W.heap[j]?) : Aw w X F W' :=
  ⟨(e X h.lt).trans h.row, h.tl, fun i hi => (h.bm i hi).same (e _ (h.bm i hi).lt), fun i hi => (h.lr i hi).same (fun g _ hg => e g hg), h.fo, h.ne, h.bx, fun i hi g hg => ⟨(h.lg i hi g hg).1, Nat.lt_of_lt_of_le (h.lg i hi g hg).2.1 hs, (h.lg i hi g hg).2.2⟩, h.xx, hb⟩
theorem chn {n : Nat} {a b c : World} (h : Below n a b) (hn : n ≤ b.heap.size) (k : Below b.heap.size b c) : Below n a c := h.trans (k.mono hn)
theorem Aw.step {w : World} {X : Nat} {F : Nat → Pr} {W W' : World} (h : Aw w X F W) (hb : Below W.heap.size W W') : Aw w X F W' := h.same hb.size (chn h.bel h.bel.size hb) (fun j hj => hb.block j hj)
theorem Aw.drew {w : World} {X : Nat} {F : Nat → Pr} {W : World} (h : Aw w X F W) : Aw w X F W.drew := h.step (below_drews rfl rfl rfl rfl)
theorem kobel {n b : Nat} {a c d : World} (h : Below n a c) (k : Ko b c d) (hb : n ≤ b) (hn : n ≤ c.heap.size) : Below n a d := h.trans (k.below hb hn)
/-- a question was asked: the map was turned and turned back. -/
theorem Aw.ask {w : World} {X : Nat} {F : Nat → Pr} {W W' : World} (h : Aw w X F W) (k : Nat) (hk : k < 3) (ko : Ko (F k).b W W') (hb : Bm W' (F k).b (F k).S) : Aw w X F W' := by
  refine ⟨(ko.obj X h.lt (Ne.symm (h.bx k hk).1)).trans h.row, h.tl, ?_, ?_, h.fo, h.ne, h.bx, fun i hi g hg => ⟨(h.lg i hi g hg).1, Nat.lt_of_lt_of_le (h.lg i hi g hg).2.1 ko.size, (h.lg i hi g hg).2.2⟩, h.xx, kobel h.bel ko (h.bx k hk).2 h.bel.size⟩
  · intro i hi
    by_cases e : i = k
    · subst e; exact hb
    · exact (h.bm i hi).off ko (h.ne i k hi hk e)
  · intro i hi
    exact (h.lr i hi).same (fun g hg hl => ko.obj g hl ((h.lg i hi g hg).2.2 k hk))
/-- a tick was set or cleared. -/
theorem Aw.put {w : World} {X : Nat} {F : Nat → Pr} {W W1 W2 : World} (h : Aw w X F W) (k : Nat) (hk : k < 3) (p' : Option Addr) (c' : Nat) (S' : Nat → Bool) (l' : List Int) (ht : l' = Go.Proofs.YtcbfgodknonefaaDoor.tl S') (hb : Below W.heap.size W W1) (lr : Lr W1 p' l') (fo : Fo p' l'.length c') (cs : p' = (F k).p ∨ ∃ g, p' = some ⟨g, 0, none⟩ ∧ W.heap.size ≤ g ∧ g < W1.heap.size) (ko : Ko (F k).b W1 W2) (bm : Bm W2 (F k).b S') :
    Aw w X (updP F k ⟨(F k).b, S', p', c', l'⟩) (W2.setCell ⟨X, k * 2 + 1, none⟩ (.slice p' l'.length c')) := by
  have h1 := h.step hb
  have bx := h.bx
  have hX : W2.heap[X]? = some (.cells (rowX F) 33 (0, 0)) := (ko.obj X h1.lt (Ne.symm (bx k hk).1)).trans h1.row
  have so : ∀ j, j ≠ X → (W2.setCell ⟨X, k * 2 + 1, none⟩ (.slice p' l'.length c')).heap[j]? = W2.heap[j]? := fun j hj => heap_setCell_other _ _ _ _ hj
  have ub : ∀ i, (updP F k ⟨(F k).b, S', p', c', l'⟩ i).b = (F i).b := by
    intro i
    by_cases e : i = k
    · subst e; rw [updP_same]
    · rw [updP_other _ _ _ _ e]
  have pg : ∀ g, p' = some ⟨g, 0, none⟩ → g ≠ X ∧ g < W1.heap.size ∧ ∀ j, j < 3 → g ≠ (F j).b := by
    intro g hg
    rcases cs with e | ⟨g', e, hg1, hg2⟩
    · have := h1.lg k hk g (by rw [← e]; exact hg)
      exact this
    · rw [hg] at e
      simp only [Option.some.injEq, Addr.mk.injEq, and_true] at e
      subst e
      refine ⟨by have := h.lt; omega, hg2, ?_⟩
      intro j hj
      have := (h.bm j hj).lt
      omega
  refine ⟨?_, ?_, ?_, ?_, ?_, ?_, ?_, ?_, h.xx, (kobel h1.bel ko (bx k hk).2 h1.bel.size).setCell h.xx _⟩
  · rw [heap_setCell_same W2 X (k * 2 + 1) _ 33 _ hX, ← rowX_set F k hk ⟨(F k).b, S', p', c', l'⟩ rfl]
  · intro i hi
    by_cases e : i = k
    · subst e; rw [updP_same]; exact ht
    · rw [updP_other _ _ _ _ e]; exact h.tl i hi
  · intro i hi
    rw [ub i]
    by_cases e : i = k
    · subst e; rw [updP_same]; exact bm.same (so _ (bx i hi).1)
    · rw [updP_other _ _ _ _ e]
      exact ((h1.bm i hi).off ko (h.ne i k hi hk e)).same (so _ (bx i hi).1)
  · intro i hi
    by_cases e : i = k
    · subst e; rw [updP_same]
      exact (lr.same (fun g hg hl => ko.obj g hl ((pg g hg).2.2 i hi))).same (fun g hg _ => so g (pg g hg).1)
    · rw [updP_other _ _ _ _ e]
      exact ((h1.lr i hi).same (fun g hg hl => ko.obj g hl ((h1.lg i hi g hg).2.2 k hk))).same (fun g hg _ => so g (h1.lg i hi g hg).1)
  · intro i hi
    by_cases e : i = k
    · subst e; rw [updP_same]; exact fo
    · rw [updP_other _ _ _ _ e]; exact h.fo i hi
  · intro i j hi hj e; rw [ub, ub]; exact h.ne i j hi hj e
  · intro i hi; rw [ub]; exact bx i hi
  · intro i hi g hg
    have hsz : W1.heap.size ≤ (W2.setCell ⟨X, k * 2 + 1, none⟩ (.slice p' l'.length c')).heap.size := by simpa using ko.size
    by_cases e : i = k
    · subst e
      rw [updP_same] at hg
      exact ⟨(pg g hg).1, Nat.lt_of_lt_of_le (pg g hg).2.1 hsz, fun j hj => by rw [ub]; exact (pg g hg).2.2 j hj⟩
    · rw [updP_other _ _ _ _ e] at hg
      have := h1.lg i hi g hg
      exact ⟨this.1, Nat.lt_of_lt_of_le this.2.1 hsz, fun j hj => by rw [ub]; exact this.2.2 j hj⟩
/-- a copy of one pair's map in the place of another pair. -/
theorem Aw.copy {w : World} {X : Nat} {F : Nat → Pr} {W W1 : World} (h : Aw w X F W) (k j : Nat) (hk : k < 3) (hj : j < 3) (nb : Nat) (hb : Below W.heap.size W W1) (hn : W.heap.size ≤ nb) (bm : Bm W1 nb (F j).S) :
    Aw w X (updP F k ⟨nb, (F j).S, (F j).p, (F j).c, (F j).l⟩) ((W1.setCell ⟨X, k * 2, none⟩ (.pointer (some ⟨nb, 0, none⟩))).setCell ⟨X, k * 2 + 1, none⟩ (.slice (F j).p (F j).l.length (F j).c)) := by
  have h1 := h.step hb
  have hX := h1.row
  have hXl := h.lt
  have so : ∀ i, i ≠ X → ((W1.setCell ⟨X, k * 2, none⟩ (.pointer (some ⟨nb, 0, none⟩))).setCell ⟨X, k * 2 + 1, none⟩ (.slice (F j).p (F j).l.length (F j).c)).heap[i]? = W1.heap[i]? := fun i hi => by
    rw [heap_setCell_other _ _ _ _ hi, heap_setCell_other _ _ _ _ hi]
  have hsz : W1.heap.size ≤ ((W1.setCell ⟨X, k * 2, none⟩ (.pointer (some ⟨nb, 0, none⟩))).setCell ⟨X, k * 2 + 1, none⟩ (.slice (F j).p (F j).l.length (F j).c)).heap.size := by simp
  have old : ∀ i, i < 3 → (F i).b < W.heap.size := fun i hi => (h.bm i hi).lt
  have src : ∀ i, i < 3 → ∃ m, m < 3 ∧ (updP F k ⟨nb, (F j).S, (F j).p, (F j).c, (F j).l⟩ i).p = (F m).p ∧ (updP F k ⟨nb, (F j).S, (F j).p, (F j).c, (F j).l⟩ i).l = (F m).l ∧ (updP F k ⟨nb, (F j).S, (F j).p, (F j).c, (F j).l⟩ i).c = (F m).c ∧ (updP F k ⟨nb, (F j).S, (F j).p, (F j).c, (F j).l⟩ i).S = (F m).S := by
    intro i hi
    by_cases e : i = k
    · subst e; exact ⟨j, hj, by rw [updP_same], by rw [updP_same], by rw [updP_same], by rw [updP_same]⟩
    · exact ⟨i, hi, by rw [updP_other _ _ _ _ e], by rw [updP_other _ _ _ _ e], by rw [updP_other _ _ _ _ e], by rw [updP_other _ _ _ _ e]⟩
  have bcase : ∀ i, i < 3 → (i = k ∧ (updP F k ⟨nb, (F j).S, (F j).p, (F j).c, (F j).l⟩ i).b = nb) ∨ (i ≠ k ∧ (updP F k ⟨nb, (F j).S, (F j).p, (F j).c, (F j).l⟩ i).b = (F i).b) := by
    intro i hi
    by_cases e : i = k
    · subst e; exact Or.inl ⟨rfl, by rw [updP_same]⟩
    · exact Or.inr ⟨e, by rw [updP_other _ _ _ _ e]⟩
  refine ⟨?_, ?_, ?_, ?_, ?_, ?_, ?_, ?_, h.xx, (h1.bel.setCell h.xx _).setCell h.xx _⟩
  · rw [heap_setCell_same _ X (k * 2 + 1) _ 33 _ (heap_setCell_same W1 X (k * 2) _ 33 _ hX), ← rowX_set2 F k hk ⟨nb, (F j).S, (F j).p, (F j).c, (F j).l⟩]
  · intro i hi
    obtain ⟨m, hm, _, e2, _, e4⟩ := src i hi
    rw [e2, e4]; exact h.tl m hm
  · intro i hi
    by_cases e : i = k
    · subst e; rw [updP_same]; exact bm.same (so _ (by show nb ≠ X; omega))
    · rw [updP_other _ _ _ _ e]; exact (h1.bm i hi).same (so _ (h.bx i hi).1)
  · intro i hi
    obtain ⟨m, hm, e1, e2, _, _⟩ := src i hi
    rw [e1, e2]
    exact (h1.lr m hm).same (fun g hg _ => so g (h1.lg m hm g hg).1)
  · intro i hi
    obtain ⟨m, hm, e1, e2, e3, _⟩ := src i hi
    rw [e1, e2, e3]; exact h.fo m hm
  · intro a b ha hb' hab
    rcases bcase a ha with ⟨e1, e2⟩ | ⟨e1, e2⟩ <;> rcases bcase b hb' with ⟨e3, e4⟩ | ⟨e3, e4⟩ <;> rw [e2, e4]
    · omega
    · have := old b hb'; omega
    · have := old a ha; omega
    · exact h.ne a b ha hb' hab
  · intro i hi
    rcases bcase i hi with ⟨_, e⟩ | ⟨_, e⟩ <;> rw [e]
    · exact ⟨by omega, by have := h.bel.size; omega⟩
    · exact h.bx i hi
  · intro i hi g hg
    obtain ⟨m, hm, e1, _, _, _⟩ := src i hi
    rw [e1] at hg
    have h2 := h.lg m hm g hg
    refine ⟨h2.1, Nat.lt_of_lt_of_le h2.2.1 (Nat.le_trans hb.size hsz), ?_⟩
    intro q hq
    rcases bcase q hq with ⟨_, e⟩ | ⟨_, e⟩ <;> rw [e]
    · omega
    · exact h2.2.2 q hq
end Go.Proofs.YtcbfgodknonefaaDoor
