/-
  With, whatever the number: the list of the set with it.
-/
import Derived.Test.YtcbfgodknonefaaDoorBnL
namespace Go.Proofs.YtcbfgodknonefaaDoor
open Go.RowKit Go.Deep Bt
set_option linter.unusedVariables false
set_option maxRecDepth 100000
set_option maxHeartbeats 1000000

/-- the form of the document's list: none at all, or a slice from a block's beginning. -/
def Fo (p : Option Addr) (n cap : Nat) : Prop := (p = none ∧ n = 0 ∧ cap = 0) ∨ ∃ g, p = some ⟨g, 0, none⟩ ∧ n ≤ cap
theorem with_all (p : Option Addr) (cap : Nat) (S : Nat → Bool) (x : Int) (w : World) (hc : Lr w p (tl S)) (hf : Fo p (tl S).length cap) :
    Calls Tryd.prog 10 #[.slice p (tl S).length cap, .int .i64 x] w fun e w' => ∃ p' cap', e = .returned (.tuple #[.slice p' (tl (insI S x)).length cap', .bool (setI S x)]) ∧ Lr w' p' (tl (insI S x)) ∧ Fo p' (tl (insI S x)).length cap' ∧ (p' = p ∨ ∃ g, p' = some ⟨g, 0, none⟩ ∧ w.heap.size ≤ g ∧ g < w'.heap.size) ∧ Below w.heap.size w w' := by
  cases hs : setI S x with
  | false =>
    have e : insI S x = S := by
      unfold insI
      unfold setI at hs
      by_cases h : 0 ≤ x ∧ x < 262144
      · rw [if_pos h]
        obtain ⟨k, rfl⟩ : ∃ k : Nat, x = k := ⟨x.toNat, by omega⟩
        rw [hasI_nat S k (by omega)] at hs
        simp at hs
        have hk : S k = true := by
          cases hS : S k with
          | true => rfl
          | false => rw [hS] at hs; simp at hs; omega
        rw [Int.toNat_natCast]
        exact ins_there S k hk
      · rw [if_neg h]
    rw [e]
    refine (with_no p cap S (tl S) (Tl.of S) x w hc hs).mono ?_
    rintro e w' ⟨rfl, hb⟩
    exact ⟨p, cap, rfl, hc.same (fun g _ hg => hb.block g hg), hf, .inl rfl, hb⟩
  | true =>
    have h : 0 ≤ x ∧ x < 262144 := by
      unfold setI at hs
      simp at hs
      omega
    obtain ⟨k, rfl⟩ : ∃ k : Nat, x = k := ⟨x.toNat, by omega⟩
    have hk : S k = false := by
      unfold setI at hs
      rw [hasI_nat S k (by omega)] at hs
      cases hS : S k with
      | false => rfl
      | true => rw [hS] at hs; simp at hs
    have e : insI S (k : Int) = ins S k := by unfold insI; rw [if_pos h, Int.toNat_natCast]
    have e2 : tl (ins S k) = (tl S).take (ahd S (k : Int)) ++ (k : Int) :: (tl S).drop (ahd S (k : Int)) := tl_ins S k (by omega) hk
    have e3 : (tl (ins S k)).length = (tl S).length + 1 := by rw [e2]; simp; omega
    rw [e]
    have fin : ∀ (g' c' : Nat) (w' : World), (w.heap.size ≤ g' ∧ g' < w'.heap.size ∧ (tl S).length + 1 ≤ c') → Cs w' g' ((tl S).take (ahd S (k : Int)) ++ (k : Int) :: (tl S).drop (ahd S (k : Int))) → Below w.heap.size w w' →
        ∃ p' cap', Ending.returned (.tuple #[.slice (some ⟨g', 0, none⟩) ((tl S).length + 1) c', .bool true]) = .returned (.tuple #[.slice p' (tl (ins S k)).length cap', .bool true]) ∧ Lr w' p' (tl (ins S k)) ∧ Fo p' (tl (ins S k)).length cap' ∧ (p' = p ∨ ∃ g, p' = some ⟨g, 0, none⟩ ∧ w.heap.size ≤ g ∧ g < w'.heap.size) ∧ Below w.heap.size w w' := by
      intro g' c' w' hg hcs hb
      refine ⟨some ⟨g', 0, none⟩, c', by rw [e3], ?_, .inr ⟨g', rfl, by omega⟩, .inr ⟨g', rfl, hg.1, hg.2.1⟩, hb⟩
      intro i hi
      refine ⟨g', rfl, ?_⟩
      simp only [e2] at hi ⊢
      exact hcs i hi
    rcases hf with ⟨rfl, hn, rfl⟩ | ⟨g, rfl, hcap⟩
    · have hl0 : tl S = [] := List.length_eq_zero_iff.1 hn
      rw [hn]
      refine (with_none S (tl S) (Tl.of S) k w hl0 (by omega) hk).mono ?_
      rintro e w' ⟨g', c', rfl, hg, hcs, hb⟩
      exact fin g' c' w' hg hcs hb
    · refine (with_some g cap S (tl S) (Tl.of S) k w hc hcap (by omega) hk).mono ?_
      rintro e w' ⟨g', c', rfl, hg, hcs, hb⟩
      exact fin g' c' w' hg hcs hb
end Go.Proofs.YtcbfgodknonefaaDoor
