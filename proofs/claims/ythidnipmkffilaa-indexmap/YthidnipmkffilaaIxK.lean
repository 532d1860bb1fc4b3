/-
  Keys and values in a slice of one's own.
-/
import Derived.Test.YthidnipmkffilaaIxN
import Derived.Deep.AppendLies
import Derived.Deep.RegionWith
namespace Go.Proofs.Ythidnipmkffilaa
open Go.RowKit Go.Deep
set_option linter.unusedVariables false
set_option linter.unusedSimpArgs false
/-- keys and values, cell by cell. -/
def kvs : List (Int × Int) → List Value
  | [] => []
  | x :: l => .int .u64 x.1 :: .int .i64 x.2 :: kvs l
theorem kvs_len : ∀ l, (kvs l).length = l.length * 2
  | [] => rfl
  | x :: l => by simp only [kvs, List.length_cons, kvs_len l]; omega
theorem kvs_append : ∀ a b, kvs (a ++ b) = kvs a ++ kvs b
  | [], b => rfl
  | x :: a, b => by simp only [List.cons_append, kvs, kvs_append a b]
theorem kvs_one (l : List (Int × Int)) : ∀ u ∈ kvs l, u.oneCell' = true := by
  induction l with
  | nil => intro u hu; simp [kvs] at hu
  | cons x l ih =>
    intro u hu
    simp only [kvs, List.mem_cons] at hu
    rcases hu with rfl | rfl | hu
    · rfl
    · rfl
    · exact ih u hu
theorem kvs_at : ∀ (l : List (Int × Int)) (i : Nat) (h : i < l.length), (kvs l)[i * 2]? = some (.int .u64 (l[i]'h).1) ∧ (kvs l)[i * 2 + 1]? = some (.int .i64 (l[i]'h).2)
  | x :: l, 0, h => by simp [kvs]
  | x :: l, i + 1, h => by
    have := kvs_at l i (by simpa using h)
    simp only [kvs, List.getElem_cons_succ]
    rw [show (i + 1) * 2 = i * 2 + 1 + 1 by omega, List.getElem?_cons_succ, List.getElem?_cons_succ, List.getElem?_cons_succ, List.getElem?_cons_succ]
    exact this
theorem kvs_take : ∀ (l : List (Int × Int)) (k : Nat), kvs (l.take k) = (kvs l).take (k * 2)
  | [], k => by simp [kvs]
  | x :: l, 0 => by simp [kvs]
  | x :: l, k + 1 => by
    rw [List.take_succ_cons, show (k + 1) * 2 = k * 2 + 1 + 1 by omega]
    simp only [kvs, List.take_succ_cons, kvs_take l k]
theorem kvs_drop : ∀ (l : List (Int × Int)) (k : Nat), kvs (l.drop k) = (kvs l).drop (k * 2)
  | [], k => by simp [kvs]
  | x :: l, 0 => by simp [kvs]
  | x :: l, k + 1 => by
    rw [List.drop_succ_cons, show (k + 1) * 2 = k * 2 + 1 + 1 by omega]
    simp only [kvs, List.drop_succ_cons, kvs_drop l k]
/-- keys and values in a slice of one's own. -/
def OwK (base : Nat) (w : World) (v : Value) (l : List (Int × Int)) : Prop := w.ownsRow base 51 2 v l.length (kvs l)
theorem OwK.at {base : Nat} {w : World} {v : Value} {l : List (Int × Int)} (h : OwK base w v l) (i : Nat) (hi : i < l.length) :
    ∃ g c, v = .slice (some ⟨g, 0, none⟩) l.length c ∧ g < w.heap.size ∧ l.length ≤ c ∧ w.cell? ⟨g, i * 2, none⟩ = some (.int .u64 l[i].1) ∧ w.cell? ⟨g, i * 2 + 1, none⟩ = some (.int .i64 l[i].2) := by
  rcases h.2 with ⟨_, e⟩ | ⟨g, cap, cur, e, hg0, hg, r1, r⟩
  · omega
  · subst e
    refine ⟨g, cap, rfl, row_lt hg, r1, ?_, ?_⟩
    · rw [World.ownsRow.cellAt h (i * 2) (by omega)]; exact (kvs_at l i hi).1
    · rw [World.ownsRow.cellAt h (i * 2 + 1) (by omega)]; exact (kvs_at l i hi).2
theorem OwK.form {base : Nat} {w : World} {v : Value} {l : List (Int × Int)} (h : OwK base w v l) : ∃ p c, v = .slice p l.length c ∧ l.length ≤ c := by
  rcases h.2 with ⟨e, e2⟩ | ⟨g, cap, cur, e, _, _, r1, _⟩
  · exact ⟨none, 0, by rw [e2]; exact e, by omega⟩
  · exact ⟨_, _, e, r1⟩
theorem OwK.nil (base : Nat) (w : World) : OwK base w (.slice none 0 0) [] := ⟨rfl, Or.inl ⟨rfl, rfl⟩⟩
/-- one's own slice stays where its block does. -/
theorem OwK.same {base : Nat} {w w' : World} {v : Value} {l : List (Int × Int)} (h : OwK base w v l) (hk : ∀ (g : Nat) (c : Array Value), w.heap[g]? = some (Obj.cells c 51 (0, 0)) → w'.heap[g]? = w.heap[g]?) : OwK base w' v l := by
  obtain ⟨h1, h2⟩ := h
  refine ⟨h1, h2.imp id ?_⟩
  rintro ⟨g, cap, cur, e1, e2, hg, r⟩
  exact ⟨g, cap, cur, e1, e2, (hk g _ hg).trans hg, r⟩
theorem info51all : (Try.prog.info? 51).map (fun i => (i.zero, i.size, i.bytes)) = some (some (.agg #[.int .u64 0, .int .i64 0]), 2, 16) := by kernel_rfl
/-- what an append behind one's own slice leaves alone. -/
def Ap (base : Nat) (v : Value) (w w' : World) : Prop := Below base w w' ∧ w.heap.size ≤ w'.heap.size ∧ ∀ k, k < w.heap.size → v.ownBlock ≠ some k → w'.heap[k]? = w.heap[k]?
/-- keys and values that may be read. -/
def KsR (w : World) (u : Value) (xs : List (Int × Int)) : Prop := (xs = [] ∧ u = .slice none 0 0) ∨ ∃ ad c, u = .slice (some ad) xs.length c ∧ ∀ j y, (kvs xs)[j]? = some y → w.cell? (ad.add j) = some y
theorem add_mid0 (b o j : Nat) : (⟨b, o, none⟩ : Addr).add j = ⟨b, o + j, none⟩ := by unfold Addr.add; split <;> simp_all
theorem wp_appK {o : Oper} {a : Act} {w : World} {K : Act → World → Prop} {Q : Exit → Act → World → Prop} (s x : Operand)
    (ho : o.op = .call { callee := .builtin .append, args := #[s, x], argTypes := #[49, 49] }) (base : Nat) (v : Value) (l : List (Int × Int)) (hs : a.eval s = v) (hown : OwK base w v l)
    (u : Value) (xs : List (Int × Int)) (hx : a.eval x = u) (hu : KsR w u xs) (hn : (l.length + xs.length) * 16 ≤ 140737488355328) (hbase : base ≤ w.heap.size) (rs : List (Int × Int)) (hr : rs = l ++ xs)
    (h : ∀ v' w', OwK base w' v' rs → Ap base v w w' → K (a.put o.dst v') w') :
    Oper.wp Try.prog o a w K Q := by
  subst hr
  obtain ⟨i0, hi, hz0, hz1, hz2⟩ := info_parts info51all
  rcases hu with ⟨rfl, rfl⟩ | ⟨ad, c1, rfl, hc⟩
  · have hrun := run_append_owned_none (P := Try.prog) (w := w) base 49 o.type 51 i0 2 Try.underlying49 hi _ l.length _ hown
    have hk : K (a.put o.dst v) w := h v w (by simpa using hown) ⟨Below.refl _ _, Nat.le_refl _, fun _ _ _ => rfl⟩
    unfold Oper.wp
    simp [execOp, ho, resolve, invoke, builtin, hs, hx, hrun, Result.andThen]
    exact hk
  · obtain ⟨v', w', hr, h1, h2, h3, h5⟩ := run_append_own_at (P := Try.prog) w base 49 o.type 51 i0 (.agg #[.int .u64 0, .int .i64 0]) 2 16 Try.underlying49 hi hz0 hz1 hz2 rfl (by decide) v l.length (kvs l) hown ad xs.length c1 (kvs xs) (kvs_len xs) hc (kvs_one _) (by unfold maxLen; omega) (by omega) hbase
    have hb : Below base w w' := (Below.refl base w).grown h2 hbase (fun j hj => (World.ownsRow.lt hown j hj).1)
    have hK := h v' w' (by unfold OwK; rw [kvs_append, List.length_append]; exact h1) ⟨hb, h2.size, fun k hk hne => h2.block k hk (fun e => hne e.symm)⟩
    unfold Oper.wp execOp
    simp only [ho, resolve, invoke, builtin, Sem.run_bind, Sem.run_pure, Result.andThen_ok, List.map_toArray, List.map_cons, List.map_nil, hs, hx, hr]
    exact hK
theorem step_appK {ops : Array Oper} {o : Oper} {a : Act} {w : World} {K : Act → World → Prop} {Q : Exit → Act → World → Prop} {E : Prop} (hgd : o.guard = none) (s x : Operand)
    (ho : o.op = .call { callee := .builtin .append, args := #[s, x], argTypes := #[49, 49] }) (base : Nat) (v : Value) (l : List (Int × Int)) (hs : a.eval s = v) (hown : OwK base w v l)
    (u : Value) (xs : List (Int × Int)) (hx : a.eval x = u) (hu : KsR w u xs) (hn : (l.length + xs.length) * 16 ≤ 140737488355328) (hbase : base ≤ w.heap.size) (rs : List (Int × Int)) (hr : rs = l ++ xs)
    (h : ∀ v' w', OwK base w' v' rs → Ap base v w w' → K (a.put o.dst v') w') :
    if Region.wanted o (yielded ops a.tmps) = true then Oper.wp Try.prog o a w K Q else E := by
  have hw : Region.wanted o (yielded ops a.tmps) = true := by simp [Region.wanted, hgd]
  rw [if_pos hw]
  exact wp_appK s x ho base v l hs hown u xs hx hu hn hbase rs hr h
/-- the part ahead of a place, the part behind one. -/
theorem OwK.cut {base : Nat} {w : World} {g cap : Nat} {l : List (Int × Int)} (h : OwK base w (.slice (some ⟨g, 0, none⟩) l.length cap) l) {k : Nat} (hk : k ≤ l.length) : KsR w (.slice (some ⟨g, 0, none⟩) k cap) (l.take k) := by
  refine Or.inr ⟨⟨g, 0, none⟩, cap, by rw [List.length_take, Nat.min_eq_left hk], ?_⟩
  intro j y hj
  rw [kvs_take, List.getElem?_take] at hj
  split at hj
  · rw [add_mid0, Nat.zero_add, World.ownsRow.cellAt h j (by omega)]; exact hj
  · cases hj
theorem OwK.rest {base : Nat} {w : World} {g cap : Nat} {l : List (Int × Int)} (h : OwK base w (.slice (some ⟨g, 0, none⟩) l.length cap) l) {k : Nat} (hk : k ≤ l.length) (c : Nat) : KsR w (.slice (some ⟨g, k * 2, none⟩) (l.length - k) c) (l.drop k) := by
  refine Or.inr ⟨⟨g, k * 2, none⟩, c, by rw [List.length_drop], ?_⟩
  intro j y hj
  rw [kvs_drop, List.getElem?_drop] at hj
  have hlt : k * 2 + j < (kvs l).length := by
    rcases Nat.lt_or_ge (k * 2 + j) (kvs l).length with h9 | h9
    · exact h9
    · rw [List.getElem?_eq_none h9] at hj; cases hj
  rw [kvs_len] at hlt
  rw [add_mid0, World.ownsRow.cellAt h _ (by omega)]; exact hj
theorem ksr_one {w : World} {g : Nat} {k v : Int} (h : w.heap[g]? = some (.cells #[.int .u64 k, .int .i64 v] 51 (0, 0))) : KsR w (.slice (some ⟨g, 0, none⟩) 1 1) [(k, v)] := by
  refine Or.inr ⟨⟨g, 0, none⟩, 1, rfl, ?_⟩
  intro j y hj
  rw [add_mid0, Nat.zero_add, row_cell h]
  simpa [kvs] using hj
theorem own_empty {w : World} {base g : Nat} (h : base ≤ g) (hg : w.heap[g]? = some (.cells #[] 51 (0, 0))) : OwK base w (.slice (some ⟨g, 0, none⟩) 0 0) [] := ⟨rfl, Or.inr ⟨g, 0, #[], rfl, h, hg, Nat.le_refl _, Nat.zero_le _, rfl, rfl⟩⟩
end Go.Proofs.Ythidnipmkffilaa
