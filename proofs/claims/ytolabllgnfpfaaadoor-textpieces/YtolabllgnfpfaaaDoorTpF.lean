/-
  lines: what it wants beside.
-/
import Derived.Test.YtolabllgnfpfaaaDoorTpE
import Derived.Test.YtolabllgnfpfaaaDoorTyP
namespace Go.Proofs.YtolabllgnfpfaaaDoor
open Go.RowKit Go.Deep Go.Lib Go.Shelf Go.Sort
set_option linter.unusedVariables false
set_option linter.unusedSimpArgs false

theorem tl_len (l : List UInt8) : (tl l).length ≤ 1 := by
  unfold tl
  split <;> simp
theorem drain_len : ∀ (n : Nat) (l : List UInt8), l.length ≤ n → (drain l).1.length ≤ l.length := by
  intro n
  induction n with
  | zero =>
    intro l hl
    have : l = [] := List.length_eq_zero_iff.1 (by omega)
    subst this
    rw [drain_wait waits_nil]
    simp
  | succ n ih =>
    intro l hl
    by_cases hw : Waits l
    · rw [drain_wait hw]; simp
    · rw [drain_step hw]
      have h1 := nx_shrink hw
      have h2 := ih (nxR l).1 (by omega)
      have h3 := tl_len l
      simp only [List.length_append]
      omega
theorem Come.small {b : List UInt8} {f : Nat} {acc : List (List UInt8)} {l : List UInt8} (h : Come b f acc l) (hf : f ≤ b.length) : acc.length ≤ f := by
  have h1 := congrArg List.length h.told
  have h2 := drain_len _ (b.take f) (Nat.le_refl _)
  simp only [List.length_append, List.length_take] at h1 h2
  omega
/-- the told line, encoded again. -/
theorem nx_told {l : List UInt8} (h : (nxR l).2.2.2.1 = true) : encE (nxR l).2.1 (nxR l).2.2.1 = 0 ∧ tl l = [encB (nxR l).2.1 (nxR l).2.2.1] ∧ ¬ Waits l := by
  refine ⟨?_, by unfold tl; rw [if_pos h], fun hw => by rw [nx_wait hw] at h; simp at h⟩
  unfold nxR at h ⊢
  by_cases h20 : (outE l).2.2 = 20
  · rw [if_pos h20] at h; simp at h
  · rw [if_neg h20] at h ⊢
    by_cases h0 : (outE l).2.2 ≠ 0
    · rw [if_pos h0] at h; simp at h
    · rw [if_neg h0] at h ⊢
      have hd : (decR l).2.2.2 = 0 := by simpa using h
      exact (decR_back (b := l) (k := (decR l).1) (m := (decR l).2.1) (n := (decR l).2.2.1) (by rw [← hd])).2.2.1
theorem nx_untold {l : List UInt8} (h : (nxR l).2.2.2.1 = false) : tl l = [] := by unfold tl; rw [if_neg (by rw [h]; simp)]
theorem conv_any {w : World} {q : Option Addr} {l : List UInt8} (h : Sb w q l) (c : Nat) : (convert 26 9 (.slice q l.length c)).run Tryd.prog w = .ok (.string ⟨l.toArray⟩) w := by
  cases q with
  | none =>
    have hl : l = [] := by
      cases l with
      | nil => rfl
      | cons x l => obtain ⟨b, o, e, _⟩ := h 0 (by simp); cases e
    subst hl
    rw [List.length_nil, run_convert_bytes_nil w 26 5 Tryd.underlying26 Tryd.underlying5 0 c 9 Tryd.underlying9]
    rfl
  | some a =>
    exact run_convert_bytes_back (P := Tryd.prog) w 26 9 5 a c l Tryd.underlying26 Tryd.underlying5 Tryd.underlying9 (fun j hj => by
      obtain ⟨b, o, e, h0⟩ := h j hj
      obtain rfl : a = ⟨b, o, none⟩ := by simpa using e
      rw [Addr.add_mid]
      exact h0)
/-- a piece in new memory. -/
theorem own_piece (w : World) {ops : Array Oper} {rest : List Oper} {o : Oper} {a : Act} {Q : Exit → Act → World → Prop} (hgd : o.guard = none) (sl x : Operand)
    (ho : o.op = .call { callee := .builtin .append, args := #[sl, x], argTypes := #[26, 26] }) (hs : a.eval sl = .slice (some ⟨w.heap.size, 0, none⟩) 0 0) (q : Option Addr) (n cap : Nat) (t : List UInt8) (hn : n = t.length) (hx : a.eval x = .slice q n cap) (hS : Sg (w.alloc (.cells #[] 5)) q cap t) (hlen : t.length ≤ 140737488355328)
    (h : ∀ g c w', Sb w' (some ⟨g, 0, none⟩) t → Below w.heap.size w w' → wpList Tryd.prog ops Q rest (a.put o.dst (.slice (some ⟨g, 0, none⟩) t.length c)) w') : wpList Tryd.prog ops Q (o :: rest) a (w.alloc (.cells #[] 5)) := by
  have hb : Own w.heap.size w (w.alloc (.cells #[] 5)) (.slice (some ⟨w.heap.size, 0, none⟩) 0 0) [] := ⟨⟨rfl, Or.inr ⟨w.heap.size, 0, #[], rfl, Nat.le_refl _, heap_alloc_new _ _, Nat.le_refl _, Nat.zero_le _, rfl, rfl⟩⟩, ball _ _, (ball w _).size⟩
  subst hn
  obtain ⟨i0, hi, hz0, hz1, hz2⟩ := info_parts info5all
  cases q with
  | none =>
    obtain ⟨rfl, rfl⟩ := hS.2 rfl
    exact wpList_append_own_none hgd sl x 26 ho w.heap.size 5 i0 1 Tryd.underlying26 hi _ 0 _ hs hb.1 hx (h w.heap.size 0 _ (fun i hi => by simp at hi) (ball _ _))
  | some ad =>
    refine wpList_append_own _ hgd sl x 26 ho w.heap.size 5 i0 (.int .u8 0) 1 1 Tryd.underlying26 hi hz0 hz1 hz2 rfl (by decide) _ 0 _ hs hb.1 ad t.length cap (byteCells t) hx (by simp [byteCells]) ?_ ?_ (by unfold maxLen; omega) (by omega) hb.2.2 ?_
    · intro j u hj
      simp only [byteCells, List.getElem?_map, Option.map_eq_some_iff] at hj
      obtain ⟨c, hc, rfl⟩ := hj
      obtain ⟨hl, hc⟩ := List.getElem?_eq_some_iff.1 hc
      obtain ⟨b', o', e, h0⟩ := hS.1 j hl
      obtain rfl : ad = ⟨b', o', none⟩ := by simpa using e
      rw [hc] at h0
      rw [Addr.add_mid]
      exact h0
    · intro u hu
      simp only [byteCells, List.mem_map] at hu
      obtain ⟨c, _, rfl⟩ := hu
      rfl
    · intro v' w' ho' hg h3
      rw [Nat.zero_add] at ho'
      have hbel : Below w.heap.size w w' := hb.2.1.grown hg hb.2.2 (fun k hk => (hb.1.lt k hk).1)
      rcases ho'.2 with ⟨rfl, _⟩ | ⟨g, c, cur, rfl, r⟩
      · exact absurd (h3.1 rfl).1 (by simp)
      · refine h g c w' ?_ hbel
        obtain ⟨q2, c2, e2, hS2⟩ := (show Own w.heap.size w w' (.slice (some ⟨g, 0, none⟩) t.length c) t from ⟨by simpa [byteCells] using ho', hbel, hbel.size⟩).form
        obtain ⟨rfl, _⟩ : some ⟨g, 0, none⟩ = q2 ∧ c = c2 := by simpa using e2
        exact hS2
/-- numbers that came in. -/
def Vs (w : World) (p : Option Addr) (xs : List Int) : Prop := ∀ i (h : i < xs.length), ∃ b o, p = some ⟨b, o, none⟩ ∧ b < w.heap.size ∧ w.cell? ⟨b, o + i, none⟩ = some (.int .i64 xs[i])
/-- a stretch of bytes that came in. -/
theorem Sg.cut {w : World} {q : Option Addr} {cap : Nat} {b : List UInt8} (h : Sg w q cap b) (f t : Nat) (hft : f ≤ t) (ht : t ≤ b.length) (hc : b.length ≤ cap) : Sg w (if cap = f then q else q.map (·.add (f * 1))) (cap - f) ((b.drop f).take (t - f)) := by
  by_cases e : cap = f
  · rw [if_pos e]
    have hnil : (b.drop f).take (t - f) = [] := by
      rw [List.take_eq_nil_iff]; left; omega
    rw [hnil]
    exact ⟨fun i hi => by simp at hi, fun hq => ⟨rfl, by have := (h.2 hq).2; omega⟩⟩
  · rw [if_neg e]
    refine ⟨?_, fun hq => ?_⟩
    · intro i hi
      have hi' : i < t - f := by simp at hi; omega
      obtain ⟨b', o', e1, h0⟩ := h.1 (f + i) (by omega)
      subst e1
      refine ⟨b', o' + f, by simp [Addr.add_mid], ?_⟩
      rw [Nat.add_assoc, h0]
      simp
    · have hq' : q = none := by simpa using hq
      obtain ⟨h1, h2⟩ := h.2 hq'
      subst h1
      exact ⟨by simp, by omega⟩
theorem size5 (w : World) : (sizeOf (Tryd.prog.elem 26)).run Tryd.prog w = .ok 1 w := by kernel_rfl
theorem elem26 : Tryd.prog.underlying 26 = some (.slice (Tryd.prog.elem 26)) := by kernel_rfl
theorem wpList_cut (w : World) {ops : Array Oper} {rest : List Oper} {o : Oper} {a : Act} {Q : Exit → Act → World → Prop} (hgd : o.guard = none) (x lo hi : Operand) (ho : o.op = .slice 26 x (some lo) (some hi) none)
    (q : Option Addr) (cap : Nat) (b : List UInt8) (f t : Nat) (hx : a.eval x = .slice q b.length cap) (hlo : a.eval lo = .int .i64 f) (hhi : a.eval hi = .int .i64 t) (hS : Sg w q cap b) (hft : f ≤ t) (ht : t ≤ b.length) (hc : b.length ≤ cap)
    (h : ∀ q' c', Sg w q' c' ((b.drop f).take (t - f)) → wpList Tryd.prog ops Q rest (a.put o.dst (.slice q' (t - f) c')) w) : wpList Tryd.prog ops Q (o :: rest) a w := by
  refine wpList_plain hgd fun K' hK' => ?_
  have hrun : (Instr.slice 26 (.slice q b.length cap) (some (.int .i64 f)) (some (.int .i64 t)) none).run Tryd.prog w = .ok (.slice (if cap = f then q else q.map (·.add (f * 1))) (t - f) (cap - f)) w := by
    rw [run_slice_lh w 26 q b.length cap elem26 .i64 .i64 f t (by omega) (by omega) (by omega), size5]
    simp [Result.andThen, sliced]
  unfold Oper.wp
  simp [execOp, ho, hx, hlo, hhi, run_sliceAt_slice w 26 _ _ _ _ elem26, hrun, Result.andThen]
  exact hK' _ _ (by simpa using h _ _ (hS.cut f t hft ht hc))
structure Stay (p : Prop) : Prop where
  go : p
theorem stop_at {ops : Array Oper} {rest : List Oper} {o : Oper} {a : Act} {w : World} {Q : Exit → Act → World → Prop} (d : Nat) (hd : o.dst = some d) (h : Stay (wpList Tryd.prog ops Q (o :: rest) a w)) : wpList Tryd.prog ops Q (o :: rest) a w := h.go
end Go.Proofs.YtolabllgnfpfaaaDoor
