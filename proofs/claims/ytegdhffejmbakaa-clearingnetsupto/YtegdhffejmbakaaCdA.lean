/-
  CdA
-/
import Derived.Test.YtegdhffejmbakaaAcM
import Derived.Test.YtegdhffejmbakaaDmI
import Derived.Maps.OwnSet
import Derived.Maps.Views
import Derived.Maps.RangeWalk
import Derived.DeepKeys3
import Derived.Deep.LoopGhost
namespace Go.Proofs.Ytegdhffejmbakaa.Ac
open Go.RowKit Go.Deep Go.Maps BigM MonM TexM Go.Proofs.Ytegdhffejmbakaa
set_option linter.unusedVariables false
set_option linter.unusedSimpArgs false
set_option maxRecDepth 100000
/-- how keys and elements of a map read. -/
structure Kv (K V : Type) where
  kt : TypeId
  mt : TypeId
  et : TypeId
  R : Value → Option (DataW Unit × List MemPlace)
  ok : K → Prop
  kv : K → Value
  kl : K → Lit
  val : V → Value
  el : V → DataW Unit
  zero : V
/-- what stands of them. -/
structure KvOk {K V : Type} (s : Kv K V) : Prop where
  law : Keyed Try.prog s.kt
  und : Try.prog.underlying s.mt = some (.map s.kt s.et)
  key : ∀ k, s.ok k → keyOf Try.prog s.kt (s.kv k) = some (s.kl k)
  inj : ∀ k k', s.ok k → s.ok k' → s.kv k = s.kv k' → k = k'
  rd : ∀ v, s.R (s.val v) = some (s.el v, [])
  un : ∀ x v ps, s.R x = some (s.el v, ps) → x = s.val v
  z : ∀ w, (zeroValue s.et).run Try.prog w = .ok (s.val s.zero) w
def upd {K V : Type} [DecidableEq K] (f : K → Option V) (k : K) (v : V) : K → Option V := fun k' => if k' = k then some v else f k'
theorem upd_same {K V : Type} [DecidableEq K] (f : K → Option V) (k : K) (v : V) : upd f k v k = some v := if_pos rfl
theorem upd_other {K V : Type} [DecidableEq K] (f : K → Option V) {k k' : K} (v : V) (h : k' ≠ k) : upd f k v k' = f k' := if_neg h
/-- block M is a map that holds what f says. -/
def Mp {K V : Type} (s : Kv K V) (w : World) (M n : Nat) (f : K → Option V) : Prop :=
  ∃ D : DataW Unit, w.ownsMap Try.prog s.kt s.R M n D ∧ (∀ k, s.ok k → has D (s.kl k) = (f k).isSome) ∧ (∀ k v, s.ok k → f k = some v → ∀ z, D.atKey (s.kl k) z = s.el v)
section
variable {K V : Type} {s : Kv K V}
theorem Mp.lt {w : World} {M n : Nat} {f : K → Option V} (h : Mp s w M n f) : M < w.heap.size := by obtain ⟨D, h, _⟩ := h; exact h.lt
theorem Mp.same {w w' : World} {M n : Nat} {f : K → Option V} (h : Mp s w M n f) (hs : w'.heap[M]? = w.heap[M]?) : Mp s w' M n f := by
  obtain ⟨D, ⟨es, clock, h1, h2⟩, h3⟩ := h
  exact ⟨D, ⟨es, clock, hs.trans h1, h2⟩, h3⟩
theorem Mp.on {w w' : World} {M n : Nat} {f : K → Option V} (h : Mp s w M n f) (hb : Below w.heap.size w w') : Mp s w' M n f := h.same (hb.block M h.lt)
theorem Mp.kept {w w' : World} {F : Nat → Prop} {M n : Nat} {f : K → Option V} (h : Mp s w M n f) (hk : Kp F w w') (hF : ¬ F M) : Mp s w' M n f := h.same (hk.obj M h.lt hF)
theorem Mp.made (s : Kv K V) (w : World) : Mp s (w.alloc (.map #[] 0)) w.heap.size 0 (fun _ => none) := ⟨.map [], World.ownsMap_made _ _ _ _, fun k _ => rfl, fun k v _ h => by cases h⟩
theorem Mp.mono {w : World} {M n n' : Nat} {f : K → Option V} (h : Mp s w M n f) (hn : n ≤ n') : Mp s w M n' f := by
  obtain ⟨D, h1, h2⟩ := h
  exact ⟨D, h1.mono hn, h2⟩
theorem Mp.val {w : World} {M n : Nat} {f : K → Option V} (h : Mp s w M n f) (S : KvOk s) (k : K) (hk : s.ok k) : ∃ v, (Instr.lookup s.mt (.map (some M)) (s.kv k) true).run Try.prog w = .ok (.tuple #[v, .bool (f k).isSome]) w ∧ v = s.val ((f k).getD s.zero) := by
  obtain ⟨D, h1, h2, h3⟩ := h
  obtain ⟨v, ps, hr, hv⟩ := h1.look_ok S.law S.und (S.z w) (S.rd s.zero) (S.key k hk)
  rw [h2 k hk] at hr
  refine ⟨v, hr, ?_⟩
  cases e : f k with
  | none =>
    rw [atKey_of_not_has (by rw [h2 k hk, e]; rfl)] at hv
    exact S.un _ _ _ hv
  | some y =>
    rw [h3 k y hk e] at hv
    exact S.un _ _ _ hv
theorem Mp.get {w : World} {M n : Nat} {f : K → Option V} (h : Mp s w M n f) (S : KvOk s) (k : K) (hk : s.ok k) : (Instr.lookup s.mt (.map (some M)) (s.kv k) false).run Try.prog w = .ok (s.val ((f k).getD s.zero)) w := by
  obtain ⟨D, h1, h2, h3⟩ := h
  obtain ⟨v, ps, hr, hv⟩ := h1.lookup S.law S.und (S.z w) (S.rd s.zero) (S.key k hk)
  have e : v = s.val ((f k).getD s.zero) := by
    cases e : f k with
    | none =>
      rw [atKey_of_not_has (by rw [h2 k hk, e]; rfl)] at hv
      exact S.un _ _ _ hv
    | some y =>
      rw [h3 k y hk e] at hv
      exact S.un _ _ _ hv
  rw [← e]
  exact hr
theorem KvOk.ne (S : KvOk s) {k k' : K} (hk : s.ok k) (hk' : s.ok k') (h : k ≠ k') : s.kl k ≠ s.kl k' := fun e => h (S.inj k k' hk hk' (S.law.inj (S.key k hk) (by rw [e]; exact S.key k' hk')))
theorem Mp.put [DecidableEq K] {w : World} {M n : Nat} {f : K → Option V} (h : Mp s w M n f) (S : KvOk s) (hn : n < maxLen) (k : K) (hk : s.ok k) (v : V) :
    ∃ w', (Instr.mapUpdate s.mt (.map (some M)) (s.kv k) (s.val v)).run Try.prog w = .ok () w' ∧ Mp s w' M (n + 1) (upd f k v) ∧ Kp (fun b => b = M) w w' := by
  obtain ⟨D, h1, h2, h3⟩ := h
  obtain ⟨w', hr, h5, h6⟩ := h1.update S.law S.und hn (S.key k hk) (S.rd v)
  refine ⟨w', hr, ⟨_, h5, ?_, ?_⟩, ⟨h6.os, h6.tape, h6.output, h6.size, fun b hb hne => h6.block b hb (by simpa using hne)⟩⟩
  · intro k' hk'
    by_cases e : k' = k
    · subst e
      rw [has_put_same h1.isMap (S.law.key (S.key _ hk)), upd_same]; rfl
    · rw [has_put_other (S.ne hk' hk e), h2 k' hk', upd_other f v e]
  · intro k' v' hk' hf z
    by_cases e : k' = k
    · subst e
      rw [upd_same] at hf
      cases hf
      exact atKey_put_same h1.isMap (S.law.key (S.key _ hk)) _ _
    · rw [upd_other f v e] at hf
      rw [atKey_put_other (S.ne hk' hk e)]
      exact h3 k' v' hk' hf z
end
/-- a way through a map; lf: what is still to come. -/
def Mr {K V : Type} (s : Kv K V) (w : World) (M r n : Nat) (f : K → Option V) (lf : K → Bool) (cnt : Nat) : Prop :=
  ∃ (D : DataW Unit) (left : Lit → Bool), w.ranges Try.prog s.kt s.R M r n D left cnt ∧ (∀ k, s.ok k → left (s.kl k) = lf k) ∧ (∀ k, s.ok k → has D (s.kl k) = (f k).isSome) ∧ (∀ k v, s.ok k → f k = some v → ∀ z, D.atKey (s.kl k) z = s.el v) ∧ (∀ k, s.ok k → lf k = true → (f k).isSome = true)
section
variable {K V : Type} {s : Kv K V}
theorem Mr.mp {w : World} {M r n cnt : Nat} {f : K → Option V} {lf : K → Bool} (h : Mr s w M r n f lf cnt) : Mp s w M n f := by
  obtain ⟨D, left, h1, _, h3, h4, _⟩ := h
  exact ⟨D, h1.owns, h3, h4⟩
theorem Mr.lt {w : World} {M r n cnt : Nat} {f : K → Option V} {lf : K → Bool} (h : Mr s w M r n f lf cnt) : r < w.heap.size := by
  obtain ⟨D, left, ⟨es, clock, since, seen, c0, a1, a2, a3, a4, a5, a6⟩, h2⟩ := h
  exact row_lt a5
theorem Mr.same {w w' : World} {M r n cnt : Nat} {f : K → Option V} {lf : K → Bool} (h : Mr s w M r n f lf cnt) (hM : w'.heap[M]? = w.heap[M]?) (hr : w'.heap[r]? = w.heap[r]?) : Mr s w' M r n f lf cnt := by
  obtain ⟨D, left, ⟨es, clock, since, seen, c0, a1, a2, a3, a4, a5, a6⟩, h2⟩ := h
  exact ⟨D, left, ⟨es, clock, since, seen, c0, hM.trans a1, a2, a3, a4, hr.trans a5, a6⟩, h2⟩
theorem Mr.on {w w' : World} {M r n cnt : Nat} {f : K → Option V} {lf : K → Bool} (h : Mr s w M r n f lf cnt) (hb : Below w.heap.size w w') : Mr s w' M r n f lf cnt := h.same (hb.block M h.mp.lt) (hb.block r h.lt)
theorem Mr.kept {w w' : World} {F : Nat → Prop} {M r n cnt : Nat} {f : K → Option V} {lf : K → Bool} (h : Mr s w M r n f lf cnt) (hk : Kp F w w') (hM : ¬ F M) (hr : ¬ F r) : Mr s w' M r n f lf cnt := h.same (hk.obj M h.mp.lt hM) (hk.obj r h.lt hr)
theorem Mp.range {w : World} {M n : Nat} {f : K → Option V} (h : Mp s w M n f) (S : KvOk s) : ∃ w' cnt, (Instr.range s.mt (.map (some M))).run Try.prog w = .ok (.pointer (some ⟨w.heap.size, 0, none⟩)) w' ∧ Mr s w' M w.heap.size n f (fun k => (f k).isSome) cnt ∧ cnt ≤ n ∧ Below w.heap.size w w' := by
  obtain ⟨D, h1, h2, h3⟩ := h
  obtain ⟨w', hr, h5, h6, h7⟩ := h1.range S.law S.und
  exact ⟨w', _, hr, ⟨D, _, h5, h2, h2, h3, fun k _ h => h⟩, h1.size_le, ⟨h6.os, h6.tape, h6.output, h6.size, fun i hi => h6.block i hi (by simp)⟩⟩
end
def U32 (k : Int) : Prop := (Lit.int .u32 k).wf = true
theorem u32_mk {k : Int} (h0 : 0 ≤ k) (h1 : k < 4294967296) : U32 k := by simp [U32, Lit.wf, IntKind.min, IntKind.max, IntKind.signed, IntKind.bits]; omega
theorem lawU : Keyed Try.prog 23 := int_keyed Try.underlying23
def rd2l : List Value → Option (DataW Unit × List MemPlace)
  | [.int .u64 a, .int .u64 b] => some (.agg [.lit (.int .u64 a), .lit (.int .u64 b)], [])
  | _ => none
def rd2 : Value → Option (DataW Unit × List MemPlace)
  | .agg cs => rd2l cs.toList
  | _ => none
theorem rd2_inv {v : Value} {z : DataW Unit × List MemPlace} (h : rd2 v = some z) : ∃ a b, v = .agg #[.int .u64 a, .int .u64 b] ∧ z = (.agg [.lit (.int .u64 a), .lit (.int .u64 b)], []) := by
  unfold rd2 at h
  split at h
  · rename_i cs
    obtain ⟨l⟩ := cs
    simp only at h
    unfold rd2l at h
    split at h
    · cases h; exact ⟨_, _, rfl, rfl⟩
    · cases h
  · cases h
/-- sums by members. -/
def kvU : Kv Int Int where
  kt := 23
  mt := 83
  et := 35
  R := rd2
  ok := fun k => (Lit.int .u32 k).wf = true
  kv := fun k => .int .u32 k
  kl := fun k => .int .u32 k
  val := mv
  el := fun m => .agg [.lit (.int .u64 (hiW m)), .lit (.int .u64 (loW m))]
  zero := 0
theorem okU : KvOk kvU where
  law := lawU
  und := Try.underlying83
  key := fun k h => keyOf_int_mk Try.underlying23 h
  inj := fun k k' _ _ h => by
    have h : Value.int .u32 k = .int .u32 k' := h
    injection h
  rd := fun v => rfl
  un := fun x v ps h => by
    obtain ⟨a, b, rfl, e⟩ := rd2_inv (show rd2 x = _ from h)
    have e := congrArg Prod.fst e
    have e : DataW.agg [.lit (.int .u64 (hiW v)), .lit (.int .u64 (loW v))] = (DataW.agg [.lit (.int .u64 a), .lit (.int .u64 b)] : DataW Unit) := e
    injection e with e
    simp only [List.cons.injEq, DataW.lit.injEq, Lit.int.injEq, true_and, and_true] at e
    show _ = mv v
    unfold mv
    rw [e.1, e.2]
  z := fun w => by kernel_rfl
/-- blocks of digits stay. -/
def Dg (w w' : World) : Prop := ∀ (b : Nat) (cur : Array Value), w.heap[b]? = some (.cells cur 23 (0, 0)) → w'.heap[b]? = some (.cells cur 23 (0, 0))
theorem Dg.refl (w : World) : Dg w w := fun _ _ h => h
theorem Dg.trans {a b c : World} (h1 : Dg a b) (h2 : Dg b c) : Dg a c := fun g cur h => h2 g cur (h1 g cur h)
theorem Dg.below {w w' : World} (h : Below w.heap.size w w') : Dg w w' := fun b cur e => (h.block b (Array.getElem?_eq_some_iff.1 e).1).trans e
theorem Dg.grown {w w' : World} {r : Option Nat} {e : TypeId} (h : w.grownBy w' r) (he : e ≠ 23) (hr : ∀ g, r = some g → ∃ cur, w.heap[g]? = some (.cells cur e (0, 0))) : Dg w w' := fun b cur hb => by
  have hl := (Array.getElem?_eq_some_iff.1 hb).1
  by_cases c : r = some b
  · obtain ⟨cur', e'⟩ := hr b c
    rw [e'] at hb
    injection hb with hb
    injection hb with h1 h2
    exact absurd h2 he
  · exact (h.block b hl (fun e => c e.symm)).trans hb
theorem Dg.kp {w w' : World} {F : Nat → Prop} {e : TypeId} (h : Kp F w w') (he : e ≠ 23) (hr : ∀ g, g < w.heap.size → F g → ∃ cur, w.heap[g]? = some (.cells cur e (0, 0))) : Dg w w' := fun b cur hb => by
  have hl := row_lt hb
  by_cases c : F b
  · obtain ⟨cur', e'⟩ := hr b hl c
    rw [e'] at hb
    injection hb with hb
    injection hb with h1 h2
    exact absurd h2 he
  · exact (h.obj b hl c).trans hb
theorem bn_dg {w w' : World} {v : Value} {n : Int} (h : Bn w v n) (hd : Dg w w') : Bn w' v n := by
  obtain ⟨ds, h1, h2⟩ := h
  refine ⟨ds, ?_, h2⟩
  rcases h1 with h | ⟨b, o, cap, z1, z2, z3, ⟨cur, e⟩, z4⟩
  · exact .inl h
  · refine .inr ⟨b, o, cap, z1, z2, z3, ⟨cur, hd b cur e⟩, fun j hj => ?_⟩
    rw [← z4 j hj]
    have e1 := hd b cur e
    simp only [World.cell?, e, e1]
theorem am_dg {w w' : World} {v : Value} {m : Int} (h : Dm.Am w v m) (hd : Dg w w') : Dm.Am w' v m := by
  obtain ⟨u, e, b⟩ := h
  exact ⟨u, e, bn_dg b hd⟩
end Go.Proofs.Ytegdhffejmbakaa.Ac
