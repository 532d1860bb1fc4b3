/-
  Feed, of the reader and of the document, with or without room; the law's step.
-/
import Derived.Test.YtolabllgnfpfaaaDoorTrF
namespace Go.Proofs.YtolabllgnfpfaaaDoor
open Go.RowKit Go.Deep Go.Lib Go.Shelf Go.Sort
set_option linter.unusedVariables false
set_option linter.unusedSimpArgs false

def fdL (l b : List UInt8) : List UInt8 := if l.length + b.length ≤ 65536 then l ++ b else l
def fdE (l b : List UInt8) : Int := if l.length + b.length ≤ 65536 then 0 else 2
theorem fd_len (l b : List UInt8) (h : l.length ≤ 65536) : (fdL l b).length ≤ 65536 := by
  unfold fdL
  split
  · rw [List.length_append]; assumption
  · exact h
theorem owns_same {B n : Nat} {w w' : World} {v : Value} {xs : List Value} (h : w.ownsRow B 5 1 v n xs) (hs : ∀ g, v.ownBlock = some g → w'.heap[g]? = w.heap[g]?) : w'.ownsRow B 5 1 v n xs := by
  obtain ⟨h1, h2⟩ := h
  refine ⟨h1, ?_⟩
  rcases h2 with h2 | ⟨r, cap, cur, e, hr, hc, k⟩
  · exact Or.inl h2
  · exact Or.inr ⟨r, cap, cur, e, hr, (hs r (by rw [e]; rfl)).trans hc, k⟩
theorem sb_cells {w : World} {g : Nat} {l r : List UInt8} (h : Sb w (some ⟨g, 0, none⟩) (l ++ r)) : ∀ j u, (bv l)[j]? = some u → w.cell? ((⟨g, 0, none⟩ : Addr).add j) = some u := by
  intro j u hj
  have hj' : j < l.length := by
    have := (List.getElem?_eq_some_iff.1 hj).1
    simpa [bv_len] using this
  rw [bv_get _ j hj'] at hj
  obtain ⟨b, o, e, hc⟩ := h j (by rw [List.length_append]; omega)
  obtain ⟨rfl, rfl⟩ : g = b ∧ 0 = o := by simpa using e
  rw [List.getElem_append_left hj'] at hc
  rw [Addr.add_mid, ← hj]
  exact hc
/-- Feed of a reader. -/
theorem feed_both (base : Nat) (w : World) (R : Nat) (l b : List UInt8) (g c : Nat) (hv : Value) (r : List UInt8) (h : RdG base w R l hv) (hl : l.length ≤ 65536) (hb : b.length ≤ 140737488351232) (hS : Sb w (some ⟨g, 0, none⟩) (b ++ r)) :
    Calls Tryd.prog 8 #[.pointer (some ⟨R, 0, none⟩), .slice (some ⟨g, 0, none⟩) b.length c] w fun e w' => e = .returned (.int .i64 (fdE l b)) ∧ (∃ hv', RdG base w' R (fdL l b) hv' ∧ (hv'.ownBlock = hv.ownBlock ∨ ∀ g, hv'.ownBlock = some g → w.heap.size ≤ g)) ∧ Below base w w' ∧ w.heap.size ≤ w'.heap.size ∧ ∀ b, b < w.heap.size → ¬ b = R → ¬ hv.ownBlock = some b → w'.heap[b]? = w.heap[b]? := by
  unfold fdE fdL
  by_cases hf : l.length + b.length ≤ 65536
  · rw [if_pos hf, if_pos hf]
    exact rfeedG base w R l b ⟨g, 0, none⟩ c hv h trivial (sb_cells hS) hf
  · rw [if_neg hf, if_neg hf]
    refine (rfeed_long base w R l (some ⟨g, 0, none⟩) b.length c hv h hl (by omega) (by omega)).mono ?_
    rintro e w' ⟨rfl, rfl⟩
    exact ⟨rfl, ⟨hv, h, Or.inl rfl⟩, Below.refl _ _, Nat.le_refl _, fun _ _ _ _ => rfl⟩
theorem own_blk2 {B : Nat} {W0 w : World} {v : Value} {l : List UInt8} (h : Own B W0 w v l) : ∃ q cap, v = .slice q l.length cap ∧ Sg w q cap l ∧ l.length ≤ cap ∧ cap < 9223372036854775808 ∧ (∀ a, q = some a → B ≤ a.block ∧ a.block < w.heap.size) := by
  obtain ⟨q, cap, hv, hS, h1, h2⟩ := own_cap h
  refine ⟨q, cap, hv, ⟨hS, fun e => ?_⟩, h1, h2, fun a ha => ?_⟩
  · rcases h.1.2 with ⟨e2, h0⟩ | ⟨g, c, cur, e2, _⟩
    · rw [hv] at e2
      simp only [Value.slice.injEq] at e2
      exact ⟨List.length_eq_zero_iff.1 h0, e2.2.2⟩
    · rw [hv, e] at e2
      simp at e2
  · rcases h.1.2 with ⟨e2, _⟩ | ⟨g, c, cur, e2, hB, hg, _⟩
    · rw [hv] at e2
      simp only [Value.slice.injEq] at e2
      rw [e2.1] at ha
      cases ha
    · rw [hv] at e2
      simp only [Value.slice.injEq] at e2
      rw [e2.1] at ha
      simp only [Option.some.injEq] at ha
      subst ha
      exact ⟨hB, (Array.getElem?_eq_some_iff.1 hg).1⟩
/-- the document's Feed. -/
theorem dfeed_both (l b : List UInt8) (q p : Option Addr) (c d : Nat) (w : World) (hl : l.length ≤ 65536) (hb : b.length ≤ 140737488351232) (hS : Sg w q c l) (hlc : l.length ≤ c) (hcm : c < 9223372036854775808) (hB : Sg w p d b) :
    Calls Tryd.prog 11 #[.slice q l.length c, .slice p b.length d] w fun e w' => ∃ q' c', e = .returned (.tuple #[.slice q' (fdL l b).length c', .int .i64 (fdE l b)]) ∧ Sg w' q' c' (fdL l b) ∧ (fdL l b).length ≤ c' ∧ c' < 9223372036854775808 ∧ (∀ a, q' = some a → (w.heap.size ≤ a.block ∧ a.block < w'.heap.size) ∨ q = some a) ∧ Below w.heap.size w w' := by
  unfold fdE fdL
  by_cases hf : l.length + b.length ≤ 65536
  · rw [if_pos hf, if_pos hf]
    refine (dfeed_any l b q p c d w hf hS hB).mono ?_
    rintro e w' ⟨v, rfl, hO⟩
    obtain ⟨q', c', rfl, h1, h2, h3, h4⟩ := own_blk2 hO
    exact ⟨q', c', rfl, h1, h2, h3, fun a e => Or.inl (h4 a e), hO.2.1⟩
  · rw [if_neg hf, if_neg hf]
    refine (dfeed_long l.length b.length q p c d w hl (by omega) (by omega)).mono ?_
    rintro e w' ⟨rfl, rfl⟩
    exact ⟨q, c, rfl, hS, hlc, hcm, fun a e => Or.inr e, Below.refl _ _⟩
/-- one piece: lent, fed, kept, spoilt, fed to the document's. -/
theorem LawR.fed {w0 w w2 w3 w4 w5 w6 : World} {R g : Nat} {l b : List UInt8} {hv hv3 : Value} {q q6 : Option Addr} {c c6 cc : Nat} (h : LawR w0 R l hv q c w)
    (b2 : Below w.heap.size w w2) (hg : w.heap.size ≤ g ∧ g < w2.heap.size)
    (r3 : RdG w0.heap.size w3 R (fdL l b) hv3) (ow : hv3.ownBlock = hv.ownBlock ∨ ∀ g, hv3.ownBlock = some g → w2.heap.size ≤ g) (b3 : Below w0.heap.size w2 w3) (s3 : w2.heap.size ≤ w3.heap.size)
    (b4 : Below w3.heap.size w3 w4) (g5 : w4.grownBy w5 (some g)) (b6 : Below w5.heap.size w5 w6) (sg : Sg w6 q6 c6 (fdL l b)) (lc : (fdL l b).length ≤ c6) (cm : c6 < 9223372036854775808) (pl : ∀ a, q6 = some a → (w5.heap.size ≤ a.block ∧ a.block < w6.heap.size) ∨ q = some a) : LawR w0 R (fdL l b) hv3 q6 c6 w6 := by
  have hl := h.rd.lt
  have l3 := r3.lt
  have s4 := b4.size
  have s5 := g5.size
  have s6 := b6.size
  have s2 := b2.size
  have hRg : ¬ R = g := by have := hl.1; omega
  have hvg : ∀ k, hv3.ownBlock = some k → ¬ k = g := by
    intro k hk e
    subst e
    rcases ow with ow | ow
    · rw [ow] at hk
      have := hl.2 k hk
      omega
    · have := ow k hk
      omega
  have r4 := r3.to b4
  have l4 := r4.lt
  have r5 : RdG w0.heap.size w5 R (fdL l b) hv3 := r4.same (g5.block R l4.1 (fun e => hRg (by simpa using e))) (fun k hk => g5.block k (l4.2 k hk) (fun e => hvg k hk (by simpa using e)))
  have l5 := r5.lt
  refine ⟨r5.to b6, sg, lc, cm, fd_len l b h.len, fun a e => ?_, ?_⟩
  · rcases pl a e with ⟨p1, p2⟩ | p1
    · refine ⟨p2, by have := l5.1; omega, fun e2 => ?_⟩
      have := l5.2 _ e2
      omega
    · obtain ⟨o1, o2, o3⟩ := h.own a p1
      refine ⟨by omega, o2, fun e2 => ?_⟩
      rcases ow with ow | ow
      · rw [ow] at e2; exact o3 e2
      · have := ow _ e2
        omega
  · have B5 := ((h.bel.trans (b2.mono h.bel.size)).trans b3).trans (b4.mono (by have := h.bel.size; omega))
    have B6 := B5.grown g5 (by have := h.bel.size; omega) (fun k hk => by have := h.bel.size; simp at hk; omega)
    exact B6.trans (b6.mono (by have := h.bel.size; omega))
end Go.Proofs.YtolabllgnfpfaaaDoor
