/-
  Tracks: any step; two tracks.
-/
import Derived.Test.YtlhfkflomicogaaDoorStE
namespace Go.Proofs.YtlhfkflomicogaaDoor
open Go.RowKit Go.Deep Crc
set_option linter.unusedVariables false
set_option linter.unusedSimpArgs false

theorem step_any (base : Nat) (w : World) (T R : Nat) (ys xs : List Nat) (hv cv : Value) (kd : Int) (ot : Bool) (p : Option Addr) (c : Nat) (h : Tr base w T R ys hv cv) (hx : Oct xs) (hn : ys.length + xs.length ≤ 140737488351232)
    (hS : ∀ w', Below base w w' → Sx w' (.slice p xs.length c) xs) (hL : Laid w) :
    Calls Tryd.prog 20 #[.pointer (some ⟨T, 0, none⟩), .agg #[.int .i64 kd, .bool ot, .slice p xs.length c]] w fun e w' => e = .returned (.bool true) ∧ ∃ zs, Goes base w w' T R hv cv zs ∧ zs.length ≤ ys.length + xs.length := by
  by_cases k0 : kd = 0
  · subst k0
    refine (step_feed base w T R ys xs hv cv ot p c h hx hn hS).mono ?_
    rintro e w' ⟨rfl, hg⟩
    exact ⟨rfl, _, hg, by simp⟩
  by_cases k1 : kd = 1
  · subst k1
    by_cases hl : ys.length < 64
    · refine (step_next_short base w T R ys hv cv ot p xs.length c h hl).mono ?_
      rintro e w' ⟨rfl, hg⟩
      exact ⟨rfl, _, hg, by omega⟩
    · refine (step_next_long base w T R ys hv cv ot p xs.length c h (by omega) (by omega) hL).mono ?_
      rintro e w' ⟨rfl, hg⟩
      exact ⟨rfl, _, hg, by simp; omega⟩
  by_cases k2 : kd = 2
  · subst k2
    refine (step_left base w T R ys hv cv ot p xs.length c h).mono ?_
    rintro e w' ⟨rfl, hg⟩
    exact ⟨rfl, _, hg, by omega⟩
  by_cases k3 : kd = 3
  · subst k3
    refine (step_close base w T R ys hv cv ot p xs.length c h (by omega)).mono ?_
    rintro e w' ⟨rfl, hg⟩
    exact ⟨rfl, _, hg, by simp⟩
  refine (step_none base w T R ys hv cv kd ot p xs.length c h k0 k1 k2 k3).mono ?_
  rintro e w' ⟨rfl, hg⟩
  exact ⟨rfl, _, hg, by omega⟩

/-- two tracks touch each other nowhere. -/
def Apart (Ta Ra : Nat) (hva cva : Value) (Tb Rb : Nat) (hvb cvb : Value) : Prop :=
  ¬ Ta = Tb ∧ ¬ Ra = Rb ∧ (∀ g, hva.ownBlock = some g → ¬ hvb.ownBlock = some g ∧ ¬ cvb.ownBlock = some g) ∧ (∀ g, hvb.ownBlock = some g → ¬ hva.ownBlock = some g ∧ ¬ cva.ownBlock = some g) ∧
    (∀ g, cva.ownBlock = some g → ¬ g = Tb ∧ ¬ g = Rb) ∧ ∀ g, cvb.ownBlock = some g → ¬ g = Ta ∧ ¬ g = Ra
theorem Apart.symm {Ta Ra : Nat} {hva cva : Value} {Tb Rb : Nat} {hvb cvb : Value} (h : Apart Ta Ra hva cva Tb Rb hvb cvb) : Apart Tb Rb hvb cvb Ta Ra hva cva :=
  ⟨fun e => h.1 e.symm, fun e => h.2.1 e.symm, h.2.2.2.1, h.2.2.1, h.2.2.2.2.2, h.2.2.2.2.1⟩
theorem Tr.kept {base : Nat} {w w' : World} {T R : Nat} {ys : List Nat} {hv cv : Value} (h : Tr base w T R ys hv cv) (hs : w.heap.size ≤ w'.heap.size) (hk : ∀ b, (b = T ∨ b = R ∨ hv.ownBlock = some b ∨ cv.ownBlock = some b) → w'.heap[b]? = w.heap[b]?) : Tr base w' T R ys hv cv := by
  obtain ⟨h0, h1, h2, h3, h4, h5⟩ := h
  exact ⟨h0, (hk T (Or.inl rfl)).trans h1, h2.kept (hk R (Or.inr (Or.inl rfl))) (fun g hg => hk g (Or.inr (Or.inr (Or.inl hg)))), h3.kept (fun g hg => hk g (Or.inr (Or.inr (Or.inr hg)))), fun g hg => ⟨Nat.lt_of_lt_of_le (h4 g hg).1 hs, (h4 g hg).2⟩, h5⟩
/-- the kinds of the blocks of a track. -/
theorem Tr.kinds {base : Nat} {w : World} {T R : Nat} {ys : List Nat} {hv cv : Value} (h : Tr base w T R ys hv cv) : (∃ x y, w.heap[T]? = some (.cells #[x, y] 51 (0, 0))) ∧ (∃ x, w.heap[R]? = some (.cells #[x] 68 (0, 0))) ∧ ∀ g, hv.ownBlock = some g → ∃ cur, w.heap[g]? = some (.cells cur 5 (0, 0)) :=
  ⟨⟨_, _, h.2.1⟩, ⟨_, h.2.2.1.2.2.1⟩, fun g hg => (h.2.2.1.2.2.2.own g hg).2⟩
theorem two_step {base : Nat} {w w' : World} {Ta Ra : Nat} {ya za : List Nat} {hva cva : Value} {Tb Rb : Nat} {yb : List Nat} {hvb cvb : Value} (ha : Tr base w Ta Ra ya hva cva) (hb : Tr base w Tb Rb yb hvb cvb) (hap : Apart Ta Ra hva cva Tb Rb hvb cvb) (hg : Goes base w w' Ta Ra hva cva za) :
    (∃ hva' cva', Tr base w' Ta Ra za hva' cva' ∧ Tr base w' Tb Rb yb hvb cvb ∧ Apart Ta Ra hva' cva' Tb Rb hvb cvb) ∧ Below base w w' := by
  obtain ⟨hva', cva', hT, ho, hc, hk, hsz, hbel⟩ := hg
  obtain ⟨p1, p2, p3, p4, p5, p6⟩ := hap
  obtain ⟨⟨x1, x2, ka1⟩, ⟨x3, ka2⟩, ka3⟩ := ha.kinds
  obtain ⟨⟨y1, y2, kb1⟩, ⟨y3, kb2⟩, kb3⟩ := hb.kinds
  have la := ha.lt
  have lb := hb.lt
  have n1 : ¬ Tb = Ra := by
    intro e
    rw [e, ka2] at kb1
    simp at kb1
  have n2 : ¬ Rb = Ta := by
    intro e
    rw [e, ka1] at kb2
    simp at kb2
  have n3 : ∀ g, hvb.ownBlock = some g → ¬ g = Ta ∧ ¬ g = Ra := by
    intro g hgg
    obtain ⟨cur, hcu⟩ := kb3 g hgg
    refine ⟨fun e => ?_, fun e => ?_⟩
    · rw [e, ka1] at hcu
      simp at hcu
    · rw [e, ka2] at hcu
      simp at hcu
  have n4 : ∀ g, hva.ownBlock = some g → ¬ g = Tb ∧ ¬ g = Rb := by
    intro g hgg
    obtain ⟨cur, hcu⟩ := ka3 g hgg
    refine ⟨fun e => ?_, fun e => ?_⟩
    · rw [e, kb1] at hcu
      simp at hcu
    · rw [e, kb2] at hcu
      simp at hcu
  refine ⟨⟨hva', cva', hT, hb.kept hsz ?_, ?_⟩, hbel⟩
  · intro b hbb
    rcases hbb with rfl | rfl | h1 | h1
    · exact hk _ lb.1 (fun e => p1 e.symm) n1 (fun e => (n4 _ e).1 rfl)
    · exact hk _ lb.2.1 n2 (fun e => p2 e.symm) (fun e => (n4 _ e).2 rfl)
    · exact hk b (lb.2.2.2 b h1).1 (n3 b h1).1 (n3 b h1).2 (p4 b h1).1
    · exact hk b (hb.2.2.2.2.1 b h1).1 (p6 b h1).1 (p6 b h1).2 (fun e => (p3 b e).2 h1)
  · have lbc : ∀ g, cvb.ownBlock = some g → g < w.heap.size := fun g hgg => (hb.2.2.2.2.1 g hgg).1
    refine ⟨p1, p2, ?_, ?_, ?_, p6⟩
    · intro g hgg
      rcases ho with e | e
      · rw [e] at hgg; exact p3 g hgg
      · have := e g hgg
        exact ⟨fun e2 => by have := (lb.2.2.2 g e2).1; omega, fun e2 => by have := lbc g e2; omega⟩
    · intro g hgg
      have hlg := (lb.2.2.2 g hgg).1
      refine ⟨fun e2 => ?_, fun e2 => ?_⟩
      · rcases ho with e | e
        · rw [e] at e2; exact (p4 g hgg).1 e2
        · have := e g e2; omega
      · rcases hc with e | e
        · rw [e] at e2; exact (p4 g hgg).2 e2
        · have := e g e2; omega
    · intro g hgg
      rcases hc with e | e
      · rw [e] at hgg; exact p5 g hgg
      · have := e g hgg
        have := lb.1
        have := lb.2.1
        exact ⟨by omega, by omega⟩
end Go.Proofs.YtlhfkflomicogaaDoor
