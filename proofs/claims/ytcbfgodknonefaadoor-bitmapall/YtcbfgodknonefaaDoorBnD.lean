/-
  The document's With.
-/
import Derived.Test.YtcbfgodknonefaaDoorBnC
import Derived.Deep.RegionLaw
namespace Go.Proofs.YtcbfgodknonefaaDoor
open Go.RowKit Go.Deep Bt
set_option linter.unusedVariables false
set_option maxRecDepth 100000
set_option maxHeartbeats 4000000

/-- whole numbers behind a slice of one's own, as one step of a region that draws; only that slice's block has changed. -/
theorem step_append_st {ops : Array Oper} {o : Oper} {a : Act} {w : World} {K : Act → World → Prop} {Q : Exit → Act → World → Prop} {E : Prop} (hgd : o.guard = none) (s x : Operand)
    (ho : o.op = .call { callee := .builtin .append, args := #[s, x], argTypes := #[30, 30] }) (base g n c : Nat) (zs : List Int) (hs : a.eval s = .slice (some ⟨g, 0, none⟩) n c) (hown : w.ownsRow base 3 1 (.slice (some ⟨g, 0, none⟩) n c) n (iv zs))
    (u : Value) (xs : List Int) (hx : a.eval x = u) (hu : Ir w u xs) (hn : (n + xs.length) * 8 ≤ 140737488355328) (hbase : base ≤ w.heap.size) (m : Nat) (rs : List Int) (hm : m = n + xs.length) (hr : rs = zs ++ xs)
    (h : ∀ g' c' w', w'.ownsRow base 3 1 (.slice (some ⟨g', 0, none⟩) m c') m (iv rs) → (w.heap.size ≤ w'.heap.size ∧ (∀ k, k < w.heap.size → k ≠ g → w'.heap[k]? = w.heap[k]?) ∧ Below base w w') → K (a.put o.dst (.slice (some ⟨g', 0, none⟩) m c')) w') :
    if Region.wanted o (yielded ops a.tmps) = true then Oper.wp Tryd.prog o a w K Q else E := by
  have hw : Region.wanted o (yielded ops a.tmps) = true := by simp [Region.wanted, hgd]
  rw [if_pos hw]
  subst hm hr
  obtain ⟨i0, hi, hz0, hz1, hz2⟩ := info_parts info3all
  rcases hu.pc with ⟨rfl, rfl⟩ | ⟨ad, c1, rfl, hc⟩
  · have hrun := run_append_owned_none (P := Tryd.prog) (w := w) base 30 o.type 3 i0 1 Tryd.underlying30 hi _ n _ hown
    have hk : K (a.put o.dst (.slice (some ⟨g, 0, none⟩) n c)) w := by simpa using h g c w (by simpa using hown) ⟨Nat.le_refl _, fun _ _ _ => rfl, Below.refl _ _⟩
    unfold Oper.wp
    simp [execOp, ho, resolve, invoke, builtin, hs, hx, hrun, Result.andThen]
    exact hk
  · refine wp_append_own w s x 30 ho base 3 i0 (.int .i64 0) 1 8 Tryd.underlying30 hi hz0 hz1 hz2 rfl (by decide) _ n _ hs hown ad xs.length c1 (iv xs) hx (by simp [iv_len]) hc (iv_one _) (by unfold maxLen; omega) (by omega) hbase ?_
    intro v' w' h1 h2 h3
    have hb : Below base w w' := (Below.refl base w).grown h2 hbase (fun j hj => (hown.lt j hj).1)
    rcases h1.2 with ⟨rfl, _⟩ | ⟨g', c', cur, rfl, _⟩
    · exact absurd (h3.1 rfl).1 (by simp)
    · exact h g' c' w' (by rw [iv_append]; exact h1) ⟨h2.size, fun k hk hne => h2.block k hk (by simp [Value.ownBlock]; exact hne), hb⟩
theorem owns_same {w w' : World} {base : Nat} {g n cap : Nat} {xs : List Value} (h : w.ownsRow base 3 1 (.slice (some ⟨g, 0, none⟩) n cap) n xs) (hk : w'.heap[g]? = w.heap[g]?) : w'.ownsRow base 3 1 (.slice (some ⟨g, 0, none⟩) n cap) n xs := by
  refine ⟨h.1, ?_⟩
  rcases h.2 with ⟨e1, _⟩ | ⟨g', cap', cur, e1, hb, hg, r⟩
  · cases e1
  · have : g' = g := by
      simp only [Value.slice.injEq, Option.some.injEq, Addr.mk.injEq, and_true, true_and] at e1
      exact e1.1.symm
    subst this
    exact Or.inr ⟨g', cap', cur, e1, hb, hk.trans hg, r⟩
theorem owns_new' (w : World) (base : Nat) (h : base ≤ w.heap.size) : (w.alloc (.cells #[] 3)).ownsRow base 3 1 (.slice (some ⟨w.heap.size, 0, none⟩) 0 0) 0 (iv []) := by
  refine ⟨rfl, Or.inr ⟨w.heap.size, 0, #[], rfl, h, World.alloc_heap_new _ _, Nat.le_refl _, ?_⟩⟩
  simp [iv]
theorem ir_one {w : World} {X : Nat} {n : Int} (h : w.heap[X]? = some (.cells #[.int .i64 n] 3 (0, 0))) : Ir w (.slice (some ⟨X, 0, none⟩) 1 1) [n] := by
  refine Or.inr (Or.inr ⟨X, 0, 1, rfl, fun i hi => ?_⟩)
  have : i = 0 := by simp at hi; omega
  subst this
  rw [row_cell h]; rfl
theorem lr_take {w : World} {p : Option Addr} {cap : Nat} {l : List Int} (h : Lr w p l) (hn : p = none → l = [] ∧ cap = 0) (k : Nat) (hk : k ≤ l.length) : Ir w (.slice p k cap) (l.take k) := by
  cases p with
  | none =>
    obtain ⟨rfl, rfl⟩ := hn rfl
    have : k = 0 := by simpa using hk
    subst this
    exact Or.inl ⟨rfl, rfl⟩
  | some ad =>
    by_cases h0 : k = 0
    · subst h0
      exact Or.inr (Or.inl ⟨rfl, ad, cap, rfl⟩)
    · obtain ⟨g, e, _⟩ := h 0 (by omega)
      obtain rfl := Option.some.inj e
      refine Or.inr (Or.inr ⟨g, 0, cap, by rw [List.length_take, Nat.min_eq_left hk], fun i hi => ?_⟩)
      have hi' : i < l.length := by rw [List.length_take] at hi; omega
      obtain ⟨g2, e2, hc⟩ := h i hi'
      obtain rfl : g2 = g := by simpa using e2.symm
      rw [Nat.zero_add, hc, List.getElem_take]

theorem with_no (p : Option Addr) (cap : Nat) (S : Nat → Bool) (l : List Int) (hS : Tl S l) (n : Int) (w : World) (hc : Lr w p l) (hs : setI S n = false) :
    Calls Tryd.prog 10 #[.slice p l.length cap, .int .i64 n] w fun e w' => e = .returned (.tuple #[.slice p l.length cap, .bool false]) ∧ Below w.heap.size w w' := by
  have C := hid (place_any p cap S l hS n w hc)
  obtain ⟨A, hA⟩ : ∃ A, ahd S n = A := ⟨_, rfl⟩
  rw [hA] at C
  obtain ⟨L, hLL⟩ : ∃ L, l.length = L := ⟨_, rfl⟩
  rw [hLL] at C ⊢
  by_cases hh : hasI S n = true
  · rw [hh] at C
    clear hc hS hs hA hLL hh
    go_enter Tryd.func10, Tryd.ntmps10
    go_wp2_with (go_at_call 29; refine (C.out).mono ?_; rintro e w' ⟨rfl, hb⟩; have HB := hid hb; clear hb)
    go_ret2
    exact ⟨rfl, HB.out⟩
  · have hh' : hasI S n = false := by simpa using hh
    rw [hh'] at C
    have hr : ¬ (0 ≤ n ∧ n < 262144) := by
      intro hr
      unfold setI at hs
      rw [decide_eq_true hr, hh'] at hs
      simp at hs
    by_cases h0 : n < 0
    · clear hc hS hs hA hLL hh hh' hr
      go_enter Tryd.func10, Tryd.ntmps10
      go_wp2_with (go_at_call 29; refine (C.out).mono ?_; rintro e w' ⟨rfl, hb⟩; have HB := hid hb; clear hb)
      go_ret2
      exact ⟨rfl, HB.out⟩
    · have h1 : 0 ≤ n := by omega
      have h2 : 262144 ≤ n := by omega
      clear hc hS hs hA hLL hh hh' hr h0
      go_enter Tryd.func10, Tryd.ntmps10
      go_wp2_with (go_at_call 29; refine (C.out).mono ?_; rintro e w' ⟨rfl, hb⟩; have HB := hid hb; clear hb)
      go_ret2
      exact ⟨rfl, HB.out⟩
end Go.Proofs.YtcbfgodknonefaaDoor
