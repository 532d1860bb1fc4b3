/-
  NumShares, walked.
-/
import Derived.Test.YtkmlhchkidddmaaRfE
import Derived.ArgAppend
namespace Go.Proofs.Ytkmlhchkidddmaa.Ss
open Go.RowKit Go.Deep BigM
set_option linter.unusedVariables false
set_option linter.unusedSimpArgs false
set_option maxHeartbeats 8000000
set_option maxRecDepth 100000
attribute [local go_sem ↓] Go.wp_at_zero Go.wp_at_succ
theorem refSum_all (ws : List Int) (n : Nat) (q : Option Addr) (cap : Nat) (w : World) (hws : ∀ x ∈ ws, Word x) (hl : ws.length = n) (hn : n ≤ 1048576) (hr : Rq w q ws) :
    Calls Try.prog 18 #[.slice q n cap] w fun e w' => e = .returned (.tuple #[.int .u64 (sumV ws), .int .i64 (sumE ws)]) ∧ Below w.heap.size w w' := by
  subst hl
  by_cases h0 : 0 < ws.length
  · obtain ⟨b, off, rfl, hR⟩ := hr h0
    exact refSum_any ws b off cap w hws hn hR
  · obtain rfl : ws = [] := List.length_eq_zero_iff.1 (by omega)
    exact refSum_none q cap w
theorem own_cap {base : Nat} {w : World} {e : TypeId} {q : Option Addr} {n c : Nat} {xs : List Value} (h : w.ownsRow base e 1 (.slice q n c) n xs) : n ≤ c ∧ c ≤ maxLen := by
  obtain ⟨_, ⟨e1, e2⟩ | ⟨g, c', cur, e1, r1, r2, r3, r4, _⟩⟩ := h
  · obtain ⟨_, _, rfl⟩ := Value.slice.inj e1
    exact ⟨by omega, by unfold maxLen; omega⟩
  · obtain ⟨_, _, rfl⟩ := Value.slice.inj e1
    exact ⟨r3, r4⟩
theorem rq_add {w : World} {q : Option Addr} {l : List Int} (h : Rq w q l) : ∀ ad, q = some ad → ∀ j u, (ivw l)[j]? = some u → w.cell? (ad.add j) = some u := fun ad e j u hj => by
  obtain ⟨hl, rfl⟩ := ivw_at hj
  obtain ⟨b, off, rfl, r⟩ := h (by omega)
  injection e with e
  subst e
  rw [Addr.add_lit]
  exact r.2 j hl
theorem rd_two {w : World} (v v' : Value) (t : TypeId) : ∀ ad, (some ⟨w.heap.size, 0, none⟩ : Option Addr) = some ad → ∀ j u, ([v, v'] : List Value)[j]? = some u → (w.alloc (.cells #[v, v'] t)).cell? (ad.add j) = some u := fun ad e j u hj => by
  injection e with e
  subst e
  rw [Addr.add_lit, row_cell (World.alloc_heap_new _ _), ← hj]
  simp
theorem own_head {base : Nat} {w : World} {g n m c : Nat} {l : List Int} {xs : List Value} (hl : l.length = n) (h : w.ownsRow base 22 1 (.slice (some ⟨g, 0, none⟩) m c) m (ivw l ++ xs)) : Rw w g 0 l := by
  obtain ⟨cur, hc⟩ := own_row h
  refine ⟨row_lt hc, fun j hj => ?_⟩
  rw [Nat.zero_add]
  exact own_at h (by rw [List.getElem?_append_left (by rw [ivw_len]; omega)]; exact ivw_get hj)
theorem own_tail {base : Nat} {w : World} {g n m c : Nat} {l : List Int} {x y : Value} (hl : l.length = n) (h : w.ownsRow base 22 1 (.slice (some ⟨g, 0, none⟩) m c) m (ivw l ++ [x, y])) : w.cell? ⟨g, n, none⟩ = some x ∧ w.cell? ⟨g, n + 1, none⟩ = some y := by
  have e : (ivw l).length = n := by rw [ivw_len]; omega
  refine ⟨own_at h ?_, own_at h ?_⟩
  · rw [List.getElem?_append_right (by omega), e]; simp
  · rw [List.getElem?_append_right (by omega), e]; simp
theorem kp_grown {B : Nat → Prop} {X W U : World} {r : Option Nat} (h : Kp B X W) (hg : W.grownBy U r) (hr : ∀ g, r = some g → X.heap.size ≤ g) : Kp B X U :=
  ⟨hg.os.trans h.os, hg.tape.trans h.tape, hg.output.trans h.output, Nat.le_trans h.size hg.size, fun j hj hb => (hg.block j (Nat.lt_of_lt_of_le hj h.size) (fun e => by have := hr j e.symm; omega)).trans (h.obj j hj hb)⟩
theorem kp_on {B : Nat → Prop} {X W U : World} (h : Kp B X W) (hb : Below W.heap.size W U) : Kp B X U :=
  ⟨hb.os.trans h.os, hb.tape.trans h.tape, hb.output.trans h.output, Nat.le_trans h.size hb.size, fun j hj hB => (hb.block j (Nat.lt_of_lt_of_le hj h.size)).trans (h.obj j hj hB)⟩
theorem cell_same {X U : World} {b j : Nat} (e : U.heap[b]? = X.heap[b]?) : U.cell? ⟨b, j, none⟩ = X.cell? ⟨b, j, none⟩ := by simp only [World.cell?, e]
theorem rw_kp {B : Nat → Prop} {X U : World} {b off : Nat} {l : List Int} (h : Rw X b off l) (hk : Kp B X U) (hB : ¬ B b) : Rw U b off l :=
  ⟨Nat.lt_of_lt_of_le h.1 hk.size, fun j hj => (cell_same (hk.obj b h.1 hB)).trans (h.2 j hj)⟩
theorem own_mono {a b : Nat} {w : World} {e : TypeId} {size n : Nat} {v : Value} {xs : List Value} (h : w.ownsRow b e size v n xs) (hab : a ≤ b) : w.ownsRow a e size v n xs := by
  obtain ⟨h1, h2 | ⟨g, c, cur, rfl, r1, r⟩⟩ := h
  · exact ⟨h1, .inl h2⟩
  · exact ⟨h1, .inr ⟨g, c, cur, rfl, Nat.le_trans hab r1, r⟩⟩
theorem own_ge {base : Nat} {w : World} {e : TypeId} {size n : Nat} {v : Value} {xs : List Value} (h : w.ownsRow base e size v n xs) : ∀ g, v.ownBlock = some g → base ≤ g := fun g hg => by
  obtain ⟨_, ⟨rfl, _⟩ | ⟨g', c, cur, rfl, r1, _⟩⟩ := h
  · cases hg
  · simp [Value.ownBlock] at hg; omega
theorem ShR.len {A : Int} {ws : List Int} {e : Int} {l : List Int} (h : ShR A ws e l) : l.length ≤ ws.length := by
  rcases h with ⟨a1, a2, a3, a4, pl, k, _, a5, _⟩ | ⟨a1, a2, a3, rfl⟩ | ⟨a1, a2, rfl⟩
  · rw [a5.len, List.length_map]; exact Nat.le_refl _
  · simp
  · simp
end Go.Proofs.Ytkmlhchkidddmaa.Ss
