/-
  Blocks that stay; Feed with or without room (out of TrF, TrG, without the document's half).
-/
import Derived.Test.YtolabllgnfpfaaaDoorTrC
namespace Go.Proofs.YtolabllgnfpfaaaDoor
open Go.RowKit Go.Deep Go.Lib Go.Shelf Go.Sort
set_option linter.unusedVariables false
set_option linter.unusedSimpArgs false

theorem blk_cell {w w' : World} {b : Nat} (h : w'.heap[b]? = w.heap[b]?) (o : Nat) {v : Value} (hc : w.cell? ⟨b, o, none⟩ = some v) : w'.cell? ⟨b, o, none⟩ = some v := by
  unfold World.cell? at hc ⊢
  simp only [h]
  exact hc
theorem RdG.same {w w' : World} {base R : Nat} {l : List UInt8} {hv : Value} (h : RdG base w R l hv) (hR : w'.heap[R]? = w.heap[R]?) (hg : ∀ g, hv.ownBlock = some g → w'.heap[g]? = w.heap[g]?) : RdG base w' R l hv := by
  obtain ⟨h0, ho, h1, h2⟩ := h
  refine ⟨h0, ho, hR.trans h1, ?_⟩
  rcases h2 with h2 | ⟨g, o, cap, cur, e, hbg, hgg, r1, r2, r3, hB⟩
  · exact Or.inl h2
  · have hs := hg g (by rw [e]; rfl)
    exact Or.inr ⟨g, o, cap, cur, e, hbg, hs.trans hgg, r1, r2, r3, fun i hi => blk_cell hs _ (hB i hi)⟩
theorem RdG.lt {w : World} {base R : Nat} {l : List UInt8} {hv : Value} (h : RdG base w R l hv) : R < w.heap.size ∧ ∀ g, hv.ownBlock = some g → g < w.heap.size := by
  refine ⟨(Array.getElem?_eq_some_iff.1 h.2.2.1).1, fun g hg => ?_⟩
  rcases h.2.2.2 with ⟨_, e⟩ | ⟨g', o, cap, cur, e, hbg, hgg, _⟩
  · rw [e] at hg; cases hg
  · rw [e] at hg
    simp only [Value.ownBlock, Option.some.injEq] at hg
    subst hg
    exact (Array.getElem?_eq_some_iff.1 hgg).1
def fdL (l b : List UInt8) : List UInt8 := if l.length + b.length ≤ 65536 then l ++ b else l
def fdE (l b : List UInt8) : Int := if l.length + b.length ≤ 65536 then 0 else 2
theorem sb_cells {w : World} {g : Nat} {l r : List UInt8} (h : Sb w (some ⟨g, 0, none⟩) (l ++ r)) : ∀ j u, (bv l)[j]? = some u → w.cell? ((⟨g, 0, none⟩ : Addr).add j) = some u := by
  intro j u hj
  have hj' : j < l.length := by
    have := (List.getElem?_eq_some_iff.1 hj).1
    simpa [bv_len] using this
  rw [bv_get _ j hj'] at hj
  obtain ⟨b, o, e, hc⟩ := h j (by rw [List.length_append]; omega)
  obtain ⟨rfl, rfl⟩ : g = b ∧ 0 = o := by simpa using e
  rw [List.getElem_append_left hj'] at hc
  rw [Addr.add_mid, ← hj]
  exact hc
theorem feed_both (base : Nat) (w : World) (R : Nat) (l b : List UInt8) (g c : Nat) (hv : Value) (r : List UInt8) (h : RdG base w R l hv) (hl : l.length ≤ 65536) (hb : b.length ≤ 140737488351232) (hS : Sb w (some ⟨g, 0, none⟩) (b ++ r)) :
    Calls Tryd.prog 8 #[.pointer (some ⟨R, 0, none⟩), .slice (some ⟨g, 0, none⟩) b.length c] w fun e w' => e = .returned (.int .i64 (fdE l b)) ∧ (∃ hv', RdG base w' R (fdL l b) hv' ∧ (hv'.ownBlock = hv.ownBlock ∨ ∀ g, hv'.ownBlock = some g → w.heap.size ≤ g)) ∧ Below base w w' ∧ w.heap.size ≤ w'.heap.size ∧ ∀ b, b < w.heap.size → ¬ b = R → ¬ hv.ownBlock = some b → w'.heap[b]? = w.heap[b]? := by
  unfold fdE fdL
  by_cases hf : l.length + b.length ≤ 65536
  · rw [if_pos hf, if_pos hf]
    exact rfeedG base w R l b ⟨g, 0, none⟩ c hv h trivial (sb_cells hS) hf
  · rw [if_neg hf, if_neg hf]
    refine (rfeed_long base w R l (some ⟨g, 0, none⟩) b.length c hv h hl (by omega) (by omega)).mono ?_
    rintro e w' ⟨rfl, rfl⟩
    exact ⟨rfl, ⟨hv, h, Or.inl rfl⟩, Below.refl _ _, Nat.le_refl _, fun _ _ _ _ => rfl⟩
end Go.Proofs.YtolabllgnfpfaaaDoor
