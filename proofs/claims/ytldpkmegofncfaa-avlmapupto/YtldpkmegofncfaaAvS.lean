/-
  AvlMap: the map beside the trees; what is put and dropped, plain.
-/
import Derived.Test.YtldpkmegofncfaaAvN
import Derived.Test.YtldpkmegofncfaaAvO
import Derived.Maps.OwnOps
import Derived.Maps.OwnSet
import Derived.Maps.RangeWalk
namespace Go.Proofs.Ytldpkmegofncfaa
open Go.RowKit Go.Maps Go.Deep
set_option linter.unusedVariables false
set_option linter.unusedSimpArgs false
theorem law3 : Keyed Try.prog 3 := int_keyed Try.underlying3
theorem zero3 (w : World) : (zeroValue 3).run Try.prog w = .ok (.int .i64 0) w := by kernel_rfl
/-- a number that fits. -/
def Wi (x : Int) : Prop := -9223372036854775808 ≤ x ∧ x < 9223372036854775808
theorem Wi.wf {x : Int} (h : Wi x) : (Lit.int .i64 x).wf = true := by
  obtain ⟨h1, h2⟩ := h
  simp [Lit.wf, IntKind.min, IntKind.max, IntKind.signed, IntKind.bits]
  omega
/-- block M is a map that says what the tree says. -/
def Mq (w : World) (M n : Nat) (t : T) : Prop :=
  ∃ D : DataW Unit, w.ownsMap Try.prog 3 (plainElem Try.prog 3) M n D ∧ (∀ k, Maps.has D (.int .i64 k) = (t.get k).isSome) ∧ (∀ k v, t.get k = some v → ∀ z, D.atKey (.int .i64 k) z = .lit (.int .i64 v)) ∧ Maps.size D = t.n
theorem Mq.lt {w : World} {M n : Nat} {t : T} (h : Mq w M n t) : M < w.heap.size := by
  obtain ⟨D, h, _⟩ := h
  exact h.lt
theorem Mq.obj {w : World} {M n : Nat} {t : T} (h : Mq w M n t) : ∃ es cl, w.heap[M]? = some (.map es cl) := by
  obtain ⟨D, ⟨es, cl, h1, _⟩, _⟩ := h
  exact ⟨es, cl, h1⟩
theorem Mq.on {w w' : World} {M n : Nat} {t : T} (h : Mq w M n t) (hb : Below w.heap.size w w') : Mq w' M n t := by
  have hl := h.lt
  obtain ⟨D, ⟨es, clock, h1, h2⟩, h3⟩ := h
  exact ⟨D, ⟨es, clock, (hb.block M hl).trans h1, h2⟩, h3⟩
theorem Mq.ko {w w' : World} {M n B : Nat} {t u : T} (h : Mq w M n t) (hB : Av w B u) (hk : Ko B w w') : Mq w' M n t := by
  have hl := h.lt
  obtain ⟨es', cl', h5⟩ := h.obj
  obtain ⟨D, ⟨es, clock, h1, h2⟩, h3⟩ := h
  refine ⟨D, ⟨es, clock, (hk.obj M hl ?_).trans h1, h2⟩, h3⟩
  rintro rfl
  obtain ⟨q, h6, _⟩ := hB
  rw [h5] at h6
  simp at h6
theorem Mq.made (w : World) : Mq (w.alloc (.map #[] 0)) w.heap.size 0 .nil := ⟨.map [], World.ownsMap_made _ _ _ _, fun k => rfl, fun k v h => by simp [T.get, T.find, T.val] at h, rfl⟩
theorem Mq.put {w : World} {M n : Nat} {t : T} (h : Mq w M n t) (hk : T.ok t) (hn : n < 3000000) (k v : Int) (wk : Wi k) (wv : Wi v) :
    ∃ w', (Instr.mapUpdate 44 (.map (some M)) (.int .i64 k) (.int .i64 v)).run Try.prog w = .ok () w' ∧ Mq w' M (n + 1) (t.put k v) ∧ Ko M w w' := by
  obtain ⟨D, h1, h2, h3, h4⟩ := h
  obtain ⟨w', hr, h5, h6⟩ := h1.update law3 Try.underlying44 (by unfold maxLen; omega) (keyOf_int_mk Try.underlying3 wk.wf) (plainElem_int Try.underlying3 wv.wf)
  refine ⟨w', hr, ⟨_, h5, ?_, ?_, ?_⟩, ⟨h6.os, h6.tape, h6.output, h6.size, fun b hb hne => h6.block b hb (by simpa using hne)⟩⟩
  · intro j
    rw [T.get_put hk]
    by_cases e : j = k
    · subst e
      rw [if_pos rfl, has_put_same h1.isMap (by simp [WideAt.IsKeyLit])]; rfl
    · rw [if_neg e, has_put_other (by simp [e]), h2]
  · intro j u hj z
    rw [T.get_put hk] at hj
    by_cases e : j = k
    · subst e
      rw [if_pos rfl] at hj
      cases hj
      rw [atKey_put_same h1.isMap (by simp [WideAt.IsKeyLit])]
    · rw [if_neg e] at hj
      rw [atKey_put_other (by simp [e])]
      exact h3 j u hj z
  · rw [size_put (h1.tidy law3), h2, T.n_put hk.srt, h4]
    cases (t.get k).isSome <;> simp
theorem Mq.look {w : World} {M n : Nat} {t : T} (h : Mq w M n t) (k v : Int) (wk : Wi k) (hv : t.get k = some v) : (Instr.lookup 44 (.map (some M)) (.int .i64 k) false).run Try.prog w = .ok (.int .i64 v) w := by
  obtain ⟨D, h1, h2, h3, h4⟩ := h
  obtain ⟨c, hr, hat, _⟩ := h1.lookup_int law3 Try.underlying44 Try.underlying3 (zero3 w) (keyOf_int_mk Try.underlying3 wk.wf)
  rw [h3 k v hv] at hat
  simp only [DataW.lit.injEq, Lit.int.injEq, true_and] at hat
  rw [hr, hat]
theorem Mq.look2 {w : World} {M n : Nat} {t : T} (h : Mq w M n t) (k : Int) (wk : Wi k) : ∃ v, (Instr.lookup 44 (.map (some M)) (.int .i64 k) true).run Try.prog w = .ok (.tuple #[.int .i64 v, .bool (t.get k).isSome]) w := by
  obtain ⟨D, h1, h2, h3, h4⟩ := h
  obtain ⟨v, ps, hr, hv⟩ := h1.look_ok law3 Try.underlying44 (zero3 w) (plainElem_int (H := Unit) Try.underlying3 (show (Lit.int .i64 0).wf = true by decide)) (keyOf_int_mk Try.underlying3 wk.wf)
  obtain ⟨c, rfl, _⟩ := plainElem_int_inv Try.underlying3 hv
  rw [h2] at hr
  exact ⟨c, hr⟩
theorem Mq.len {w : World} {M n : Nat} {t : T} (h : Mq w M n t) (ty : TypeId) : (Builtin.len_ #[44] ty #[.map (some M)]).run Try.prog w = .ok (.int .i64 t.n) w := by
  obtain ⟨D, h1, h2, h3, h4⟩ := h
  rw [h1.len Try.underlying44 ty, h4]
/-- a going through the map is under way; what comes is what the tree says. -/
def Mr (w : World) (M r n : Nat) (t : T) (cnt : Nat) : Prop :=
  ∃ (D : DataW Unit) (left : Lit → Bool), w.ranges Try.prog 3 (plainElem Try.prog 3) M r n D left cnt ∧ (∀ k, left (.int .i64 k) = true → (t.get k).isSome = true) ∧ (∀ k v, t.get k = some v → ∀ z, D.atKey (.int .i64 k) z = .lit (.int .i64 v))
theorem Mr.on {w w' : World} {M r n cnt : Nat} {t : T} (h : Mr w M r n t cnt) (hb : Below w.heap.size w w') : Mr w' M r n t cnt := by
  obtain ⟨D, left, h1, h2⟩ := h
  exact ⟨D, left, h1.kept (row := none) ⟨hb.os, hb.tape, hb.output, hb.size, fun k hk _ => hb.block k hk⟩ (by simp) (by simp), h2⟩
theorem Mr.left {w : World} {M r n cnt : Nat} {t : T} (h : Mr w M r n t cnt) : w.rangeLeft M r = cnt := by
  obtain ⟨D, left, h1, _⟩ := h
  exact h1.left_eq
theorem Mq.range {w : World} {M n : Nat} {t : T} (h : Mq w M n t) : ∃ w' cnt, (Instr.range 44 (.map (some M))).run Try.prog w = .ok (.pointer (some ⟨w.heap.size, 0, none⟩)) w' ∧ Mr w' M w.heap.size n t cnt ∧ Below w.heap.size w w' := by
  obtain ⟨D, h1, h2, h3, h4⟩ := h
  obtain ⟨w', hr, h5, h6, h7⟩ := h1.range law3 Try.underlying44
  exact ⟨w', _, hr, ⟨D, _, h5, fun k hk => by rw [← h2]; exact hk, h3⟩, ⟨h6.os, h6.tape, h6.output, h6.size, fun i hi => h6.block i hi (by simp)⟩⟩
theorem Mr.next {w : World} {M r n cnt : Nat} {t : T} (h : Mr w M r n t cnt) :
    (∀ ty, (Instr.next (.pointer (some ⟨r, 0, none⟩)) false ty).run Try.prog w = .ok (.tuple #[.bool false]) w) ∨
    ∃ k v w' cnt', t.get k = some v ∧ (∀ ty, (Instr.next (.pointer (some ⟨r, 0, none⟩)) false ty).run Try.prog w = .ok (.tuple #[.bool true, .int .i64 k, .int .i64 v]) w') ∧ (Instr.entry (.pointer (some ⟨r, 0, none⟩))).run Try.prog w' = .ok (.tuple #[.int .i64 k, .int .i64 v]) w' ∧ Mr w' M r n t cnt' ∧ cnt' < cnt ∧ Ko r w w' := by
  obtain ⟨D, left, h1, h2, h3⟩ := h
  rcases h1.next law3 0 with ⟨_, _, hr⟩ | ⟨key, v, kl, y, w', cnt', hkey, hl, hv, hat, hr, hrg, hlt, hgr, hsz, hen⟩
  · exact Or.inl fun ty => hr
  · obtain ⟨x, rfl, rfl, hwx⟩ := Maps.keyOf_int_inv Try.underlying3 hkey
    obtain ⟨c, rfl, rfl, hwc⟩ := plainElem_int_inv Try.underlying3 hv
    have hs := h2 x hl
    obtain ⟨u, hu⟩ := Option.isSome_iff_exists.1 hs
    have h4 := h3 x u hu .nil
    rw [hat .nil] at h4
    simp only [DataW.lit.injEq, Lit.int.injEq, true_and] at h4
    subst h4
    refine Or.inr ⟨x, c, w', cnt', hu, fun ty => hr, hen, ⟨D, _, hrg, fun k hk => ?_, h3⟩, hlt, ⟨hgr.os, hgr.tape, hgr.output, hgr.size, fun b hb hne => hgr.block b hb (by simpa using hne)⟩⟩
    simp at hk
    exact h2 k hk.1
/-- the pairs put so far. -/
def pt (keys values : List Int) : Nat → T
  | 0 => .nil
  | j + 1 => (pt keys values j).put (keys.getD j 0) (values.getD j 0)
theorem pt_ok (keys values : List Int) : ∀ j, T.ok (pt keys values j)
  | 0 => T.ok_nil
  | j + 1 => (pt_ok keys values j).put _ _
theorem pt_n (keys values : List Int) : ∀ j, (pt keys values j).n ≤ j
  | 0 => by simp [pt, T.n]
  | j + 1 => by
    have h1 := pt_n keys values j
    have h2 := T.n_put_le (pt_ok keys values j).srt (keys.getD j 0) (values.getD j 0)
    show ((pt keys values j).put _ _).n ≤ _
    omega
theorem pt_get (keys values : List Int) : ∀ j i, i < j → ∃ v, (pt keys values j).get (keys.getD i 0) = some v
  | 0, i => fun h => absurd h (by omega)
  | j + 1, i => by
    intro h
    show ∃ v, ((pt keys values j).put (keys.getD j 0) (values.getD j 0)).get (keys.getD i 0) = some v
    rw [T.get_put (pt_ok keys values j)]
    by_cases e : keys.getD i 0 = keys.getD j 0
    · rw [if_pos e]; exact ⟨_, rfl⟩
    · rw [if_neg e]
      have : i ≠ j := fun e' => e (by rw [e'])
      exact pt_get keys values j i (by omega)
theorem pt_from (keys values : List Int) : ∀ j k v, (pt keys values j).get k = some v → ∃ i, i < j ∧ keys.getD i 0 = k
  | 0, k, v => fun h => by simp [pt, T.get, T.find, T.val] at h
  | j + 1, k, v => by
    intro h
    change ((pt keys values j).put (keys.getD j 0) (values.getD j 0)).get k = some v at h
    rw [T.get_put (pt_ok keys values j)] at h
    by_cases e : k = keys.getD j 0
    · exact ⟨j, by omega, e.symm⟩
    · rw [if_neg e] at h
      obtain ⟨i, h1, h2⟩ := pt_from keys values j k v h
      exact ⟨i, by omega, h2⟩
/-- two maps that say the same are one list. -/
theorem toL_ext {a b : T} (ha : T.ok a) (hb : T.ok b) (h : ∀ k, a.get k = b.get k) : a.toL = b.toL := by
  have hm : ∀ x, x ∈ a.toL ↔ x ∈ b.toL := by
    rintro ⟨k, v⟩
    rw [← T.get_iff ha.srt, ← T.get_iff hb.srt, h k]
  have h1 := ha.srt
  have h2 := hb.srt
  unfold T.so at h1 h2
  generalize a.toL = l at *
  generalize b.toL = m at *
  clear h ha hb
  induction l generalizing m with
  | nil =>
    cases m with
    | nil => rfl
    | cons y m => exact absurd ((hm y).2 (by simp)) (by simp)
  | cons x l ih =>
    cases m with
    | nil => exact absurd ((hm x).1 (by simp)) (by simp)
    | cons y m =>
      rw [List.pairwise_cons] at h1 h2
      have hxy : x = y := by
        rcases List.mem_cons.1 ((hm x).1 (by simp)) with e | hx
        · exact e
        · rcases List.mem_cons.1 ((hm y).2 (by simp)) with e | hy
          · exact e.symm
          · have := h1.1 y hy; have := h2.1 x hx; omega
      subst hxy
      congr 1
      refine ih h1.2 m h2.2 ?_
      intro z
      constructor
      · intro hz
        rcases List.mem_cons.1 ((hm z).1 (List.mem_cons_of_mem _ hz)) with e | h
        · subst e; have := h1.1 z hz; omega
        · exact h
      · intro hz
        rcases List.mem_cons.1 ((hm z).2 (List.mem_cons_of_mem _ hz)) with e | h
        · subst e; have := h2.1 z hz; omega
        · exact h
theorem n_ext {a b : T} (h : a.toL = b.toL) : a.n = b.n := by rw [← T.toL_len, ← T.toL_len, h]
theorem rk_ext {a b : T} (ha : T.ok a) (hb : T.ok b) (h : a.toL = b.toL) (k : Int) : a.rk k = b.rk k := by
  rw [T.rk_lo ha.srt.ris, T.rk_lo hb.srt.ris]
  unfold T.lo T.ks
  rw [h]
end Go.Proofs.Ytldpkmegofncfaa
