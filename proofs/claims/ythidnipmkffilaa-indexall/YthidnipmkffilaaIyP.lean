/-
  IndexAll: two pairs apart.
-/
import Derived.Test.YthidnipmkffilaaArgsP
import Derived.Test.YthidnipmkffilaaIxH
import Derived.Test.YthidnipmkffilaaIyO
namespace Go.Proofs.Ythidnipmkffilaa
open Go.RowKit Go.Deep
set_option linter.unusedVariables false
set_option linter.unusedSimpArgs false
set_option maxRecDepth 100000
/-- a block of a pair. -/
def Q4 (X P R Q g : Nat) : Prop := g = X ∨ g = P ∨ g = R ∨ g = Q
theorem Pa.ne {W : World} {X P R Q n room : Nat} {T : Ix.Tab} (h : Pa W X P R Q n room T) {g : Nat} {c : Array Value} (hg : W.heap[g]? = some (.cells c 25 (0, 0))) : ¬ Q4 X P R Q g := by
  obtain ⟨c1, e1⟩ := h.lx.isP'
  obtain ⟨c2, e2⟩ := h.rx.isP'
  rintro (e | e | e | e) <;> subst e
  · rw [h.lx.row] at hg; simp at hg
  · rw [e1] at hg; simp at hg
  · rw [h.rx.row] at hg; simp at hg
  · rw [e2] at hg; simp at hg
theorem Pa.lt {W : World} {X P R Q n room : Nat} {T : Ix.Tab} (h : Pa W X P R Q n room T) {g : Nat} (hg : Q4 X P R Q g) : g < W.heap.size := by
  obtain ⟨c1, e1⟩ := h.lx.isP'
  obtain ⟨c2, e2⟩ := h.rx.isP'
  rcases hg with e | e | e | e <;> subst e
  · exact row_lt h.lx.row
  · exact row_lt e1
  · exact row_lt h.rx.row
  · exact row_lt e2
/-- two pairs, and where they are named. -/
structure B2 (W0 : World) (A X P R n room A' X' P' R' n' room' : Nat) (w : World) : Prop where
  ex : ∃ Q T Q' T', Pa w X P R Q n room T ∧ Pa w X' P' R' Q' n' room' T' ∧ (∀ g, Q4 X P R Q g → ¬ Q4 X' P' R' Q' g) ∧ W0.heap.size ≤ Q ∧ W0.heap.size ≤ Q'
  r1 : w.heap[A]? = some (.cells #[.pointer (some ⟨X, 0, none⟩), .pointer (some ⟨R, 0, none⟩)] 25 (0, 0))
  r2 : w.heap[A']? = some (.cells #[.pointer (some ⟨X', 0, none⟩), .pointer (some ⟨R', 0, none⟩)] 25 (0, 0))
  bel : Below W0.heap.size W0 w
  lt : W0.heap.size ≤ X ∧ W0.heap.size ≤ P ∧ W0.heap.size ≤ R
  lt' : W0.heap.size ≤ X' ∧ W0.heap.size ≤ P' ∧ W0.heap.size ≤ R'
section
variable {W0 : World} {A X P R n room A' X' P' R' n' room' : Nat} {w w' : World}
theorem B2.on (h : B2 W0 A X P R n room A' X' P' R' n' room' w) (b : Below w.heap.size w w') : B2 W0 A X P R n room A' X' P' R' n' room' w' := by
  obtain ⟨Q, T, Q', T', h1, h2, h3, h4⟩ := h.ex
  exact ⟨⟨Q, T, Q', T', h1.on b, h2.on b, h3, h4⟩, row_on h.r1 b, row_on h.r2 b, btr h.bel b, h.lt, h.lt'⟩
theorem B2.sym (h : B2 W0 A X P R n room A' X' P' R' n' room' w) : B2 W0 A' X' P' R' n' room' A X P R n room w := by
  obtain ⟨Q, T, Q', T', h1, h2, h3, h4, h5⟩ := h.ex
  exact ⟨⟨Q', T', Q, T, h2, h1, fun g hg hk => h3 g hk hg, h5, h4⟩, h.r2, h.r1, h.bel, h.lt', h.lt⟩
theorem B2.step (h : B2 W0 A X P R n room A' X' P' R' n' room' w) (o : OpI) (k0 : 0 ≤ o.ky) (k1 : o.ky ≤ 18446744073709551615) :
    Calls Try.prog 15 #[.agg #[.pointer (some ⟨X, 0, none⟩), .pointer (some ⟨R, 0, none⟩)], .agg (oprow o)] w fun e w' => e = .returned (.bool true) ∧ B2 W0 A X P R n room A' X' P' R' n' room' w' ∧ ∀ (g : Nat) (c : Array Value), w.heap[g]? = some (Obj.cells c 25 (0, 0)) → w'.heap[g]? = some (Obj.cells c 25 (0, 0)) := by
  obtain ⟨Q, T, Q', T', h1, h2, h3, h4, h5⟩ := h.ex
  refine (step_any h1 o k0 k1).mono ?_
  rintro e w' ⟨rfl, Q2, T2, hp, hk, hq⟩
  have hk' : Kp (Q4 X P R Q) w w' := hk
  refine ⟨rfl, ?_, fun g c hg => hk'.row hg (h1.ne hg)⟩
  have s0 := h.bel.size
  obtain ⟨l1, l2, l3⟩ := h.lt
  refine ⟨⟨Q2, T2, Q', T', hp, h2.kp hk' (fun hb => h3 _ hb (.inl rfl)) (fun hb => h3 _ hb (.inr (.inl rfl))) (fun hb => h3 _ hb (.inr (.inr (.inl rfl)))) (fun hb => h3 _ hb (.inr (.inr (.inr rfl)))), ?_, ?_, h5⟩, hk'.row h.r1 (h1.ne h.r1), hk'.row h.r2 (h1.ne h.r2), h.bel.trans (hk'.below s0 ?_), h.lt, h.lt'⟩
  · intro g hg hg'
    rcases hq with e | e
    · rw [e] at hg; exact h3 g hg hg'
    · rcases hg with c | c | c | c
      · exact h3 g (.inl c) hg'
      · exact h3 g (.inr (.inl c)) hg'
      · exact h3 g (.inr (.inr (.inl c))) hg'
      · have := h2.lt hg'; omega
  · rcases hq with e | e <;> omega
  · rintro g hg (c | c | c | c) <;> omega
theorem B2.placed (h : B2 W0 A X P R n room A' X' P' R' n' room' w) :
    Calls Try.prog 16 #[.agg #[.pointer (some ⟨X, 0, none⟩), .pointer (some ⟨R, 0, none⟩)]] w fun e w' => e = .returned (.bool true) ∧ B2 W0 A X P R n room A' X' P' R' n' room' w' := by
  obtain ⟨Q, T, Q', T', h1, h2, h3, h4, h5⟩ := h.ex
  refine (placed_any h1).mono ?_
  rintro e w' ⟨rfl, hb⟩
  exact ⟨rfl, h.on hb⟩
theorem B2.cells (h : B2 W0 A X P R n room A' X' P' R' n' room' w) : w.cell? ⟨A, 0, none⟩ = some (.pointer (some ⟨X, 0, none⟩)) ∧ w.cell? ⟨A, 1, none⟩ = some (.pointer (some ⟨R, 0, none⟩)) := by
  have a0 := row_cell h.r1 0
  have a1 := row_cell h.r1 1
  simp only [List.getElem?_toArray, List.getElem?_cons_succ, List.getElem?_cons_zero] at a0 a1
  exact ⟨a0, a1⟩
/-- both made, one behind the other. -/
theorem B2.made {a b : Nat} (a1 : 1 ≤ a) (a2 : a ≤ 65536) (b1 : 1 ≤ b) (b2 : b ≤ 65536) {w1 w2 : World} {X P R Q X' P' R' Q' : Nat}
    (hL : Lx w1 X P (pn a) a Ix.nil) (hR : Rx w1 R Q (pn a) a Ix.nil) (hX : W0.heap.size ≤ X) (hP : W0.heap.size ≤ P) (hR1 : W0.heap.size ≤ R) (hQ : W0.heap.size ≤ Q) (hB : Below W0.heap.size W0 w1)
    {V : World} (hV : w1.alloc (.cells #[.pointer (some ⟨X, 0, none⟩), .pointer (some ⟨R, 0, none⟩)] 25) = V)
    (hL' : Lx w2 X' P' (pn b) b Ix.nil) (hR' : Rx w2 R' Q' (pn b) b Ix.nil) (hX' : V.heap.size ≤ X') (hP' : V.heap.size ≤ P') (hR1' : V.heap.size ≤ R') (hQ' : V.heap.size ≤ Q') (hB' : Below V.heap.size V w2)
    {V2 : World} (hV2 : w2.alloc (.cells #[.pointer (some ⟨X', 0, none⟩), .pointer (some ⟨R', 0, none⟩)] 25) = V2) :
    B2 W0 w1.heap.size X P R (pn a) a w2.heap.size X' P' R' (pn b) b V2 := by
  have p1 : Pa w1 X P R Q (pn a) a Ix.nil := ⟨hL, hR, Ix.tidy_nil _ _⟩
  have p2 : Pa w2 X' P' R' Q' (pn b) b Ix.nil := ⟨hL', hR', Ix.tidy_nil _ _⟩
  have bV : Below w1.heap.size w1 V := by rw [← hV]; exact ball _ _
  have bV2 : Below w2.heap.size w2 V2 := by rw [← hV2]; exact ball _ _
  have q1 := p1.on (btr bV (btr hB' bV2))
  have q2 := p2.on bV2
  have s0 := hB.size
  have s1 := bV.size
  have s2 := hB'.size
  refine ⟨⟨Q, Ix.nil, Q', Ix.nil, q1, q2, ?_, hQ, by omega⟩, ?_, ?_, btr hB (btr bV (btr hB' bV2)), ⟨hX, hP, hR1⟩, by omega, by omega, by omega⟩
  · intro g hg hk
    have := p1.lt hg
    rcases hk with c | c | c | c <;> omega
  · refine row_on ?_ (btr hB' bV2)
    rw [← hV]; exact World.alloc_heap_new _ _
  · rw [← hV2]; exact World.alloc_heap_new _ _
end
end Go.Proofs.Ythidnipmkffilaa
