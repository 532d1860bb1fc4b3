/-
  Toward TextBack's walk: what it wants beside.
-/
import Derived.Test.YtolabllgnfpfaaaDoorTyI
import Derived.Test.YtolabllgnfpfaaaDoorTyO
namespace Go.Proofs.YtolabllgnfpfaaaDoor
open Go.RowKit Go.Deep Go.Lib Go.Shelf Go.Sort
set_option linter.unusedVariables false

/-- bytes in memory, or none. -/
def Sg (w : World) (q : Option Addr) (cap : Nat) (l : List UInt8) : Prop := Sb w q l ∧ (q = none → l = [] ∧ cap = 0)
theorem Sg.on {w w' : World} {q : Option Addr} {cap : Nat} {l : List UInt8} (h : Sg w q cap l) (hb : Below w.heap.size w w') : Sg w' q cap l := ⟨h.1.on hb, h.2⟩
/-- a slice of bytes behind a slice of one's own. -/
theorem own_sliceQ (w : World) {ops : Array Oper} {rest : List Oper} {o : Oper} {a : Act} {Q : Exit → Act → World → Prop} (hgd : o.guard = none) (sl x : Operand)
    (ho : o.op = .call { callee := .builtin .append, args := #[sl, x], argTypes := #[26, 26] }) (B : Nat) (v : Value) (l : List UInt8) (hs : a.eval sl = v) (W0 : World) (hb : Own B W0 w v l) (q : Option Addr) (n cap : Nat) (t : List UInt8) (hn : n = t.length) (hx : a.eval x = .slice q n cap) (hS : Sg w q cap t) (hlen : l.length + t.length ≤ 140737488355328)
    (h : ∀ v' w', Own B W0 w' v' (l ++ t) → wpList Tryd.prog ops Q rest (a.put o.dst v') w') : wpList Tryd.prog ops Q (o :: rest) a w := by
  subst hn
  obtain ⟨i0, hi, hz0, hz1, hz2⟩ := info_parts info5all
  cases q with
  | none =>
    obtain ⟨rfl, rfl⟩ := hS.2 rfl
    exact wpList_append_own_none hgd sl x 26 ho B 5 i0 1 Tryd.underlying26 hi v l.length _ hs hb.1 hx (by simpa using h v w (by simpa using hb))
  | some ad =>
    refine wpList_append_own _ hgd sl x 26 ho B 5 i0 (.int .u8 0) 1 1 Tryd.underlying26 hi hz0 hz1 hz2 rfl (by decide) v l.length _ hs hb.1 ad t.length cap (byteCells t) hx (by simp [byteCells]) ?_ ?_ (by unfold maxLen; omega) (by omega) hb.2.2 ?_
    · intro j u hj
      simp only [byteCells, List.getElem?_map, Option.map_eq_some_iff] at hj
      obtain ⟨c, hc, rfl⟩ := hj
      obtain ⟨hl, hc⟩ := List.getElem?_eq_some_iff.1 hc
      obtain ⟨b', o', e, h0⟩ := hS.1 j hl
      obtain rfl : ad = ⟨b', o', none⟩ := by simpa using e
      rw [hc] at h0
      rw [Addr.add_mid]
      exact h0
    · intro u hu
      simp only [byteCells, List.mem_map] at hu
      obtain ⟨c, _, rfl⟩ := hu
      rfl
    · intro v' w' ho' hg _
      refine h v' w' ?_
      have hO : w'.ownsRow B 5 1 v' _ _ ∧ Below B W0 w' ∧ B ≤ w'.heap.size := ⟨ho', hb.2.1.grown hg hb.2.2 (fun k hk => (hb.1.lt k hk).1), Nat.le_trans hb.2.2 hg.size⟩
      unfold Own
      rw [byteCells_append, List.length_append]
      exact hO
theorem own_cap {B : Nat} {W0 w : World} {v : Value} {l : List UInt8} (h : Own B W0 w v l) : ∃ q cap, v = .slice q l.length cap ∧ Sb w q l ∧ l.length ≤ cap ∧ cap < 9223372036854775808 := by
  obtain ⟨q, c, e, hS⟩ := h.form
  rcases h.1.2 with ⟨e2, hn⟩ | ⟨g, cap, cur, e2, hB, hg, h5, h6, h7, h8⟩
  · rw [e2] at e
    obtain ⟨rfl, _, rfl⟩ : none = q ∧ 0 = l.length ∧ 0 = c := by simpa using e
    exact ⟨none, 0, by rw [e2, hn], hS, by omega, by decide⟩
  · rw [e2] at e
    obtain ⟨rfl, rfl⟩ : some ⟨g, 0, none⟩ = q ∧ cap = c := by simpa using e
    exact ⟨_, cap, e2, hS, h5, by unfold maxLen at h6; omega⟩
theorem flat_ge : ∀ (l : List (Int × List UInt8)) (x : Int × List UInt8), x ∈ l → x.2.length ≤ (l.flatMap fieldB).length
  | y :: l, x, h => by
    rw [List.flatMap_cons, List.length_append]
    rcases List.mem_cons.1 h with rfl | h
    · rw [fieldB_len]; omega
    · have := flat_ge l x h; omega
/-- how long what stands in a line can be. -/
theorem line_small {k : List UInt8} {m : List (Int × List UInt8)} (h : encE k m = 0) : k.length ≤ 2048 ∧ m.length ≤ 64 ∧ ∀ x ∈ m, x.2.length ≤ 2048 := by
  unfold encE at h
  split at h
  · cases h
  · rename_i hk
    split at h
    · cases h
    · split at h
      · split at h
        · cases h
        · rename_i hl
          rw [lineB_len] at hl
          refine ⟨?_, by omega, fun x hx => ?_⟩
          · rcases (Decidable.not_not.1 hk).1 with h | h <;> omega
          · have h1 := flat_ge m x hx
            have h2 : (bodyB k m).length = (fieldB (35, k)).length + (m.flatMap fieldB).length := by unfold bodyB; simp
            omega
      · rename_i hf; exact absurd h hf
end Go.Proofs.YtolabllgnfpfaaaDoor
