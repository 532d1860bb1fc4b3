/-
  Places in a slice of one's own; the used ones of a table.
-/
import Derived.Test.YthidnipmkffilaaIxO
import Derived.Deep.AppendLies
import Derived.Laws.AppendOwnNone
namespace Go.Proofs.Ythidnipmkffilaa
open Go.RowKit Go.Deep Go.Shelf Go.Lib Go.Sort
set_option linter.unusedVariables false
set_option linter.unusedSimpArgs false
/-- used places, cell by cell. -/
def pvs : List (Int × Int) → List Value
  | [] => []
  | x :: l => .bool true :: .int .u64 x.1 :: .int .i64 x.2 :: pvs l
theorem pvs_len : ∀ l, (pvs l).length = l.length * 3
  | [] => rfl
  | x :: l => by simp only [pvs, List.length_cons, pvs_len l]; omega
theorem pvs_append : ∀ a b, pvs (a ++ b) = pvs a ++ pvs b
  | [], b => rfl
  | x :: a, b => by simp only [List.cons_append, pvs, pvs_append a b]
theorem pvs_one (l : List (Int × Int)) : ∀ u ∈ pvs l, u.oneCell' = true := by
  induction l with
  | nil => intro u hu; simp [pvs] at hu
  | cons x l ih =>
    intro u hu
    simp only [pvs, List.mem_cons] at hu
    rcases hu with rfl | rfl | rfl | hu
    · rfl
    · rfl
    · rfl
    · exact ih u hu
/-- places in a slice of one's own. -/
def OwP (base : Nat) (w : World) (v : Value) (l : List (Int × Int)) : Prop := w.ownsRow base 71 3 v l.length (pvs l)
theorem OwP.form {base : Nat} {w : World} {v : Value} {l : List (Int × Int)} (h : OwP base w v l) : ∃ p c, v = .slice p l.length c := by
  rcases h.2 with ⟨e, e2⟩ | ⟨g, cap, cur, e, _⟩
  · exact ⟨none, 0, by rw [e2]; exact e⟩
  · exact ⟨_, _, e⟩
theorem OwP.formS {base : Nat} {w : World} {v : Value} {l : List (Int × Int)} {x : Int × Int} (h : OwP base w v (l ++ [x])) : ∃ g c, v = .slice (some ⟨g, 0, none⟩) (l ++ [x]).length c := by
  rcases h.2 with ⟨e, e2⟩ | ⟨g, cap, cur, e, _⟩
  · simp at e2
  · exact ⟨_, _, e⟩
theorem own_p {ops : Array Oper} {rest : List Oper} {o : Oper} {a : Act} {Q : Exit → Act → World → Prop} (hgd : o.guard = none) (sl x : Operand)
    (ho : o.op = .call { callee := .builtin .append, args := #[sl, x], argTypes := #[67, 67] }) (B : Nat) (v : Value) (l : List (Int × Int)) (hs : a.eval sl = v) (w0 : World) (k u : Int) (hb0 : OwP B w0 v l) (m : Nat) (hm : m = w0.heap.size) (hx : a.eval x = .slice (some ⟨m, 0, none⟩) 1 1) (hlen : l.length ≤ 2000000) (hB : B ≤ w0.heap.size)
    (h : ∀ v' w', OwP B w' v' (l ++ [(k, u)]) → Below B w0 w' → wpList Try.prog ops Q rest (a.put o.dst v') w') : wpList Try.prog ops Q (o :: rest) a (w0.alloc (.cells #[.bool true, .int .u64 k, .int .i64 u] 71)) := by
  subst hm
  obtain ⟨i0, hi, hz0, hz1, hz2⟩ := info_parts info71all
  have hb' : OwP B (w0.alloc (.cells #[.bool true, .int .u64 k, .int .i64 u] 71)) v l := by
    obtain ⟨h1, h2⟩ := hb0
    refine ⟨h1, h2.imp id ?_⟩
    rintro ⟨g, cap, cur, e1, e2, hg, r⟩
    exact ⟨g, cap, cur, e1, e2, row_on hg (ball _ _), r⟩
  refine wpList_append_own _ hgd sl x 67 ho B 71 i0 _ 3 24 Try.underlying67 hi hz0 hz1 hz2 rfl (by decide) v l.length _ hs hb' ⟨w0.heap.size, 0, none⟩ 1 1 (pvs [(k, u)]) hx rfl ?_ (pvs_one _) (by unfold maxLen; omega) (by omega) (Nat.le_trans hB (ball w0 _).size) ?_
  · intro j y hj
    have e0 : (⟨w0.heap.size, 0, none⟩ : Addr).add j = ⟨w0.heap.size, 0 + j, none⟩ := by unfold Addr.add; split <;> simp_all
    rw [e0, Nat.zero_add, World.cell?_alloc_new]
    simpa [pvs] using hj
  · intro v' w' ho' hg _
    refine h v' w' ?_ (((ball w0 (.cells #[.bool true, .int .u64 k, .int .i64 u] 71)).mono hB).grown hg (Nat.le_trans hB (ball w0 _).size) (fun k hk => (World.ownsRow.lt hb' k hk).1))
    unfold OwP
    rw [pvs_append, List.length_append]
    exact ho'
/-- the keys and values of the first places. -/
def us (T : Ix.Tab) : Nat → List (Int × Int)
  | 0 => []
  | m + 1 => us T m ++ (T m).toList
theorem us_len (T : Ix.Tab) (m : Nat) : (us T m).length = Ix.cnt T m := by
  induction m with
  | zero => rfl
  | succ m ih =>
    simp only [us, Ix.cnt, List.length_append, ih]
    cases T m <;> simp
theorem us_mem (T : Ix.Tab) (m : Nat) (k v : Int) : (k, v) ∈ us T m ↔ Ix.Has m T k v := by
  induction m with
  | zero => simp [us, Ix.Has]
  | succ m ih =>
    simp only [us, List.mem_append, ih]
    constructor
    · rintro (⟨i, hi, e⟩ | h)
      · exact ⟨i, by omega, e⟩
      · refine ⟨m, by omega, ?_⟩
        cases hx : T m with
        | none => rw [hx] at h; simp at h
        | some p => rw [hx] at h; simp at h; rw [h]
    · rintro ⟨i, hi, e⟩
      by_cases him : i = m
      · subst him; right; rw [e]; simp
      · exact .inl ⟨i, by omega, e⟩
end Go.Proofs.Ythidnipmkffilaa
