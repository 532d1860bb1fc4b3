/-
  The document's Keys: an insertion into a rising list.
-/
import Derived.Test.YthidnipmkffilaaIyE
import Derived.Test.YthidnipmkffilaaIxV
import Derived.Test.YthidnipmkffilaaIxY
namespace Go.Proofs.Ythidnipmkffilaa
open Go.RowKit Go.Deep
set_option linter.unusedVariables false
set_option linter.unusedSimpArgs false
def insK : Nat → Int × Int → List (Int × Int) → List (Int × Int)
  | 0, x, l => x :: l
  | k + 1, x, [] => [x]
  | k + 1, x, y :: l => y :: insK k x l
theorem insK_len : ∀ (k : Nat) (x : Int × Int) (l : List (Int × Int)), (insK k x l).length = l.length + 1
  | 0, x, l => rfl
  | k + 1, x, [] => rfl
  | k + 1, x, y :: l => by simp [insK, insK_len k x l]
theorem insK_end : ∀ (l : List (Int × Int)) (x : Int × Int), insK l.length x l = l ++ [x]
  | [], x => rfl
  | y :: l, x => by simp [insK, insK_end l x]
theorem insK_at : ∀ (k : Nat) (x : Int × Int) (l : List (Int × Int)), k ≤ l.length → (insK k x l)[k]? = some x
  | 0, x, l, _ => rfl
  | k + 1, x, [], h => by simp at h
  | k + 1, x, y :: l, h => by simpa [insK] using insK_at k x l (by simpa using h)
theorem insK_lo : ∀ (k j : Nat) (x : Int × Int) (l : List (Int × Int)), j < k → k ≤ l.length → (insK k x l)[j]? = l[j]?
  | 0, j, x, l, h, _ => by omega
  | k + 1, j, x, [], h, h2 => by simp at h2
  | k + 1, 0, x, y :: l, h, h2 => rfl
  | k + 1, j + 1, x, y :: l, h, h2 => by simpa [insK] using insK_lo k j x l (by omega) (by simpa using h2)
theorem insK_swap : ∀ (k : Nat) (x y : Int × Int) (l : List (Int × Int)), l[k]? = some y → ((insK (k + 1) x l).set (k + 1) y).set k x = insK k x l
  | 0, x, y, [], h => by simp at h
  | 0, x, y, z :: l, h => by simp at h; subst h; rfl
  | k + 1, x, y, [], h => by simp at h
  | k + 1, x, y, z :: l, h => by
    have := insK_swap k x y l (by simpa using h)
    show (z :: insK (k + 1) x l |>.set (k + 1 + 1) y).set (k + 1) x = z :: insK k x l
    simp only [List.set_cons_succ]
    rw [this]
theorem insK_perm : ∀ (k : Nat) (x : Int × Int) (l : List (Int × Int)), (insK k x l).Perm (x :: l)
  | 0, x, l => List.Perm.refl _
  | k + 1, x, [] => List.Perm.refl _
  | k + 1, x, y :: l => ((insK_perm k x l).cons y).trans (List.Perm.swap x y l)
/-- a list rises. -/
abbrev Ris (l : List (Int × Int)) : Prop := l.Pairwise (fun x y => ¬ y.1 < x.1)
theorem insK_ris : ∀ (k : Nat) (x : Int × Int) (l : List (Int × Int)), Ris l → (∀ j (h : j < l.length), j < k → ¬ x.1 < (l[j]).1) → (∀ j (h : j < l.length), k ≤ j → ¬ (l[j]).1 < x.1) → Ris (insK k x l)
  | 0, x, l, h, _, h2 => List.pairwise_cons.2 ⟨fun y hy => by
      obtain ⟨j, hj, rfl⟩ := List.getElem_of_mem hy
      exact h2 j hj (Nat.zero_le _), h⟩
  | k + 1, x, [], h, _, _ => List.pairwise_singleton _ _
  | k + 1, x, y :: l, h, h1, h2 => by
    obtain ⟨a, b⟩ := List.pairwise_cons.1 h
    refine List.pairwise_cons.2 ⟨fun z hz => ?_, insK_ris k x l b (fun j hj hk => h1 (j + 1) (by simpa using hj) (by omega)) (fun j hj hk => h2 (j + 1) (by simpa using hj) (by omega))⟩
    rcases List.mem_cons.1 ((insK_perm k x l).mem_iff.1 hz) with rfl | hz
    · exact h1 0 (by simp) (by omega)
    · exact a z hz
/-- entries in a slice of one's own. -/
def OwE (base : Nat) (w : World) (v : Value) (l : List (Int × Int)) : Prop := w.ownsRow base 74 3 v l.length (pvs l)
theorem OwE.form {base : Nat} {w : World} {v : Value} {l : List (Int × Int)} (h : OwE base w v l) : ∃ p c, v = .slice p l.length c := by
  obtain ⟨h0, ⟨e1, e2⟩ | ⟨g, c, cur, e, _⟩⟩ := h
  · exact ⟨none, 0, by rw [e1, e2]⟩
  · exact ⟨_, _, e⟩
theorem OwE.on {base : Nat} {w w' : World} {v : Value} {l : List (Int × Int)} (h : OwE base w v l) (hb : Below w.heap.size w w') : OwE base w' v l := by
  obtain ⟨h0, h1⟩ := h
  refine ⟨h0, h1.imp id ?_⟩
  rintro ⟨g, c, cur, e1, e2, e3, r⟩
  exact ⟨g, c, cur, e1, e2, row_on e3 hb, r⟩
theorem own_e {ops : Array Oper} {rest : List Oper} {o : Oper} {a : Act} {Q : Exit → Act → World → Prop} (hgd : o.guard = none) (sl x : Operand)
    (ho : o.op = .call { callee := .builtin .append, args := #[sl, x], argTypes := #[31, 31] }) (B : Nat) (v : Value) (l : List (Int × Int)) (hs : a.eval sl = v) (w0 : World) (k u : Int) (hb0 : OwE B w0 v l) (m : Nat) (hm : m = w0.heap.size) (hx : a.eval x = .slice (some ⟨m, 0, none⟩) 1 1) (hlen : l.length ≤ 2000000) (hB : B ≤ w0.heap.size)
    (h : ∀ v' w', OwE B w' v' (l ++ [(k, u)]) → Below B w0 w' → wpList Try.prog ops Q rest (a.put o.dst v') w') : wpList Try.prog ops Q (o :: rest) a (w0.alloc (.cells #[.bool true, .int .u64 k, .int .i64 u] 74)) := by
  subst hm
  obtain ⟨i0, hi, hz0, hz1, hz2⟩ := info_parts info74all
  have hb' : OwE B (w0.alloc (.cells #[.bool true, .int .u64 k, .int .i64 u] 74)) v l := hb0.on (ball _ _)
  refine wpList_append_own _ hgd sl x 31 ho B 74 i0 _ 3 24 Try.underlying31 hi hz0 hz1 hz2 rfl (by decide) v l.length _ hs hb' ⟨w0.heap.size, 0, none⟩ 1 1 (pvs [(k, u)]) hx rfl ?_ (pvs_one _) (by unfold maxLen; omega) (by omega) (Nat.le_trans hB (ball w0 _).size) ?_
  · intro j y hj
    have e0 : (⟨w0.heap.size, 0, none⟩ : Addr).add j = ⟨w0.heap.size, 0 + j, none⟩ := by unfold Addr.add; split <;> simp_all
    rw [e0, Nat.zero_add, World.cell?_alloc_new]
    simpa [pvs] using hj
  · intro v' w' ho' hg _
    refine h v' w' ?_ (((ball w0 (.cells #[.bool true, .int .u64 k, .int .i64 u] 74)).mono hB).grown hg (Nat.le_trans hB (ball w0 _).size) (fun k hk => (World.ownsRow.lt hb' k hk).1))
    unfold OwE
    rw [pvs_append, List.length_append]
    exact ho'
theorem pvs_set : ∀ (l : List (Int × Int)) (i : Nat) (x : Int × Int), i < l.length → pvs (l.set i x) = (((pvs l).set (i * 3) (.bool true)).set (i * 3 + 1) (.int .u64 x.1)).set (i * 3 + 2) (.int .i64 x.2)
  | [], i, x, h => by simp at h
  | y :: l, 0, x, _ => rfl
  | y :: l, i + 1, x, h => by
    have := pvs_set l i x (by simpa using h)
    simp only [List.set_cons_succ, pvs, this]
    rw [show (i + 1) * 3 = i * 3 + 1 + 1 + 1 by omega]
    simp [List.set_cons_succ]
theorem pvs_at3 : ∀ (l : List (Int × Int)) (i : Nat) (x : Int × Int), l[i]? = some x → (pvs l)[i * 3]? = some (.bool true) ∧ (pvs l)[i * 3 + 1]? = some (.int .u64 x.1) ∧ (pvs l)[i * 3 + 2]? = some (.int .i64 x.2)
  | [], i, x, h => by simp at h
  | y :: l, 0, x, h => by simp at h; subst h; exact ⟨rfl, rfl, rfl⟩
  | y :: l, i + 1, x, h => by
    have := pvs_at3 l i x (by simpa using h)
    simp only [pvs]
    rw [show (i + 1) * 3 = i * 3 + 1 + 1 + 1 by omega]
    simpa using this
theorem own_set {base : Nat} {w : World} {g c n : Nat} {l : List (Int × Int)} (h : w.ownsRow base 74 3 (.slice (some ⟨g, 0, none⟩) n c) n (pvs l)) (hn : l.length = n) {i : Nat} (hi : i < n) (x : Int × Int) :
    (w3 w g i (.bool true) (.int .u64 x.1) (.int .i64 x.2)).ownsRow base 74 3 (.slice (some ⟨g, 0, none⟩) n c) n (pvs (l.set i x)) := by
  obtain ⟨h0, ⟨e1, e2⟩ | ⟨g', c', cur, e, r1, r2, r3, r4, r5, r6⟩⟩ := h
  · omega
  · have e1 := (Value.slice.inj e).1
    injection e1 with e1
    injection e1 with e1
    subst e1
    have e2 := (Value.slice.inj e).2.2
    subst e2
    refine ⟨by rw [pvs_len, List.length_set, hn], .inr ⟨g, c, _, rfl, r1, w3_heap r2 _ _ _, r3, r4, by simpa using r5, ?_⟩⟩
    rw [pvs_set l i x (by omega), ← r6]
    simp [Array.toList_setIfInBounds, List.take_set]
theorem own_cells3 {base : Nat} {w : World} {g c n : Nat} {l : List (Int × Int)} (h : w.ownsRow base 74 3 (.slice (some ⟨g, 0, none⟩) n c) n (pvs l)) {i : Nat} (hi : i < n) {x : Int × Int} (hx : l[i]? = some x) :
    w.cell? ⟨g, i * 3, none⟩ = some (.bool true) ∧ w.cell? ⟨g, i * 3 + 1, none⟩ = some (.int .u64 x.1) ∧ w.cell? ⟨g, i * 3 + 2, none⟩ = some (.int .i64 x.2) ∧ (∀ j, w.frozen? ⟨g, j, none⟩ = false) ∧ n ≤ maxLen ∧ n ≤ c ∧ base ≤ g ∧ g < w.heap.size := by
  obtain ⟨h0, ⟨e1, e2⟩ | ⟨g', c', cur, e, r1, r2, r3, r4, r5, r6⟩⟩ := h
  · omega
  · have e1 := (Value.slice.inj e).1
    injection e1 with e1
    injection e1 with e1
    subst e1
    have e2 := (Value.slice.inj e).2.2
    subst e2
    have go : ∀ j, j < n * 3 → w.cell? ⟨g, j, none⟩ = (pvs l)[j]? := fun j hj => by
      have := congrArg (fun z => z[j]?) r6
      simp only [List.getElem?_take, hj, if_true, Array.getElem?_toList] at this
      rw [row_cell r2, this]
    obtain ⟨a, b, d⟩ := pvs_at3 l i x hx
    exact ⟨(go _ (by omega)).trans a, (go _ (by omega)).trans b, (go _ (by omega)).trans d, fun j => frozen_of_row w g j _ _ r2, Nat.le_trans r3 r4, r3, r1, row_lt r2⟩
end Go.Proofs.Ythidnipmkffilaa
