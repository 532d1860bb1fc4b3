/-
  TextSpoilt: the walk.
-/
import Derived.Test.YtolabllgnfpfaaaDoorTyH
import Derived.Test.YtolabllgnfpfaaaDoorTxV
namespace Go.Proofs.YtolabllgnfpfaaaDoor
open Go.RowKit Go.Deep Go.Lib Go.Shelf Go.Sort
set_option linter.unusedVariables false

theorem own_slice (w : World) {ops : Array Oper} {rest : List Oper} {o : Oper} {a : Act} {Q : Exit → Act → World → Prop} (hgd : o.guard = none) (sl x : Operand)
    (ho : o.op = .call { callee := .builtin .append, args := #[sl, x], argTypes := #[26, 26] }) (B : Nat) (v : Value) (l : List UInt8) (hs : a.eval sl = v) (W0 : World) (hb : Own B W0 w v l) (b off n cap : Nat) (t : List UInt8) (hn : n = t.length) (hx : a.eval x = .slice (some ⟨b, off, none⟩) n cap) (hS : Sb w (some ⟨b, off, none⟩) t) (hlen : l.length + t.length ≤ 140737488355328)
    (h : ∀ v' w', Own B W0 w' v' (l ++ t) → wpList Tryd.prog ops Q rest (a.put o.dst v') w') : wpList Tryd.prog ops Q (o :: rest) a w := by
  subst hn
  obtain ⟨i0, hi, hz0, hz1, hz2⟩ := info_parts info5all
  refine wpList_append_own _ hgd sl x 26 ho B 5 i0 (.int .u8 0) 1 1 Tryd.underlying26 hi hz0 hz1 hz2 rfl (by decide) v l.length _ hs hb.1 ⟨b, off, none⟩ t.length cap (byteCells t) hx (by simp [byteCells]) ?_ ?_ (by unfold maxLen; omega) (by omega) hb.2.2 ?_
  · intro j u hj
    simp only [byteCells, List.getElem?_map, Option.map_eq_some_iff] at hj
    obtain ⟨c, hc, rfl⟩ := hj
    obtain ⟨hl, hc⟩ := List.getElem?_eq_some_iff.1 hc
    obtain ⟨b', o', e, h0⟩ := hS j hl
    obtain ⟨rfl, rfl⟩ : b = b' ∧ off = o' := by simpa using e
    rw [hc] at h0
    rw [Addr.add_mid]
    exact h0
  · intro u hu
    simp only [byteCells, List.mem_map] at hu
    obtain ⟨c, _, rfl⟩ := hu
    rfl
  · intro v' w' ho' hg _
    refine h v' w' ?_
    have hO : w'.ownsRow B 5 1 v' _ _ ∧ Below B W0 w' ∧ B ≤ w'.heap.size := ⟨ho', hb.2.1.grown hg hb.2.2 (fun k hk => (hb.1.lt k hk).1), Nat.le_trans hb.2.2 hg.size⟩
    unfold Own
    rw [byteCells_append, List.length_append]
    exact hO
theorem sb_set {w : World} {g : Nat} {l : List UInt8} (h : Sb w (some ⟨g, 0, none⟩) l) (i : Nat) (hi : i < l.length) (c : UInt8) : Sb (w.setCell ⟨g, i, none⟩ (.int .u8 (c.toNat : Int))) (some ⟨g, 0, none⟩) (l.set i c) := by
  intro j hj
  refine ⟨g, 0, rfl, ?_⟩
  have hj' : j < l.length := by simpa using hj
  obtain ⟨b, o, e, h0⟩ := h j hj'
  obtain ⟨rfl, rfl⟩ : g = b ∧ 0 = o := by simpa using e
  rw [Nat.zero_add] at h0 ⊢
  by_cases hji : j = i
  · subst hji
    rw [World.cell?_setCell_same _ _ _ h0]
    simp
  · rw [World.cell?_setCell_other _ _ _ _ (by simp), h0, List.getElem_set_ne (by omega)]
theorem own_free {B : Nat} {W0 w : World} {v : Value} {l : List UInt8} (h : Own B W0 w v l) (hl : 0 < l.length) : ∃ g cap, v = .slice (some ⟨g, 0, none⟩) l.length cap ∧ B ≤ g ∧ Sb w (some ⟨g, 0, none⟩) l ∧ (∀ j, w.frozen? ⟨g, j, none⟩ = false) ∧ l.length ≤ cap ∧ cap < 9223372036854775808 := by
  obtain ⟨q, c, e, hS⟩ := h.form
  rcases h.1.2 with ⟨_, hn⟩ | ⟨g, cap, cur, e2, hB, hg, h5, h6, h7, h8⟩
  · omega
  · rw [e2] at e
    obtain ⟨rfl, rfl⟩ : some ⟨g, 0, none⟩ = q ∧ cap = c := by simpa using e
    exact ⟨g, cap, e2, hB, hS, fun j => frozen_of_row w g j _ 5 hg, h5, by unfold maxLen at h6; omega⟩
theorem own_emptyB (w : World) : Own w.heap.size w (w.alloc (.cells #[] 5)) (.slice (some ⟨w.heap.size, 0, none⟩) 0 0) [] := ⟨World.ownsRow_made (base := w.heap.size) (e := 5) (size := 1) w #[] 0 (Nat.le_refl _) (Nat.zero_le _) rfl, ball _ _, by simp⟩
theorem encB_len (kind : List UInt8) (l : List (Int × List UInt8)) : (encB kind l).length ≤ 2048 := by
  unfold encB
  split
  · rename_i h
    unfold encE at h
    split at h
    · cases h
    · split at h
      · cases h
      · split at h
        · split at h
          · cases h
          · omega
        · rename_i h3 ; exact absurd h h3
  · simp
theorem enc_one : encE [48] [] = 0 ∧ 0 < (encB [48] []).length := by
  have h1 : encE [48] [] = 0 := by decide +kernel
  refine ⟨h1, ?_⟩
  unfold encB
  rw [if_pos h1, lineB_len]
  omega

end Go.Proofs.YtolabllgnfpfaaaDoor
