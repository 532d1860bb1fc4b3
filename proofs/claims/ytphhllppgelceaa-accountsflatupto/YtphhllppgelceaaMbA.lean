/-
  A way through a map.
-/
import Derived.Test.YtphhllppgelceaaGe
import Derived.Maps.RangeWalk
import Derived.Deep.LoopGhost
namespace Go.Proofs.Ytphhllppgelceaa.Ac
open Go.RowKit Go.Deep Go.Maps Go.Proofs.Ytphhllppgelceaa.MonM
set_option linter.unusedVariables false
set_option linter.unusedSimpArgs false
set_option maxRecDepth 100000
/-- every key of the type is one of ours. -/
def KvAll {K V : Type} (s : Kv K V) : Prop := ∀ v l, keyOf Try.prog s.kt v = some l → ∃ k, s.ok k ∧ v = s.kv k
/-- a way through a map; lf: what is still to come. -/
def Mr {K V : Type} (s : Kv K V) (w : World) (M r n : Nat) (f : K → Option V) (lf : K → Bool) (cnt : Nat) : Prop :=
  ∃ (D : DataW Unit) (left : Lit → Bool), w.ranges Try.prog s.kt s.R M r n D left cnt ∧ (∀ k, s.ok k → left (s.kl k) = lf k) ∧ (∀ k, s.ok k → has D (s.kl k) = (f k).isSome) ∧ (∀ k v, s.ok k → f k = some v → ∀ z, D.atKey (s.kl k) z = s.el v) ∧ (∀ k, s.ok k → lf k = true → (f k).isSome = true)
section
variable {K V : Type} {s : Kv K V}
theorem Mr.mp {w : World} {M r n cnt : Nat} {f : K → Option V} {lf : K → Bool} (h : Mr s w M r n f lf cnt) : Mp s w M n f := by
  obtain ⟨D, left, h1, _, h3, h4, _⟩ := h
  exact ⟨D, h1.owns, h3, h4⟩
theorem Mr.lt {w : World} {M r n cnt : Nat} {f : K → Option V} {lf : K → Bool} (h : Mr s w M r n f lf cnt) : r < w.heap.size := by
  obtain ⟨D, left, ⟨es, clock, since, seen, c0, a1, a2, a3, a4, a5, a6⟩, h2⟩ := h
  exact row_lt a5
theorem Mr.same {w w' : World} {M r n cnt : Nat} {f : K → Option V} {lf : K → Bool} (h : Mr s w M r n f lf cnt) (hM : w'.heap[M]? = w.heap[M]?) (hr : w'.heap[r]? = w.heap[r]?) : Mr s w' M r n f lf cnt := by
  obtain ⟨D, left, ⟨es, clock, since, seen, c0, a1, a2, a3, a4, a5, a6⟩, h2⟩ := h
  exact ⟨D, left, ⟨es, clock, since, seen, c0, hM.trans a1, a2, a3, a4, hr.trans a5, a6⟩, h2⟩
theorem Mr.on {w w' : World} {M r n cnt : Nat} {f : K → Option V} {lf : K → Bool} (h : Mr s w M r n f lf cnt) (hb : Below w.heap.size w w') : Mr s w' M r n f lf cnt := h.same (hb.block M h.mp.lt) (hb.block r h.lt)
theorem Mr.kept {w w' : World} {F : Nat → Prop} {M r n cnt : Nat} {f : K → Option V} {lf : K → Bool} (h : Mr s w M r n f lf cnt) (hk : Kp F w w') (hM : ¬ F M) (hr : ¬ F r) : Mr s w' M r n f lf cnt := h.same (hk.obj M h.mp.lt hM) (hk.obj r h.lt hr)
theorem Mp.range {w : World} {M n : Nat} {f : K → Option V} (h : Mp s w M n f) (S : KvOk s) : ∃ w' cnt, (Instr.range s.mt (.map (some M))).run Try.prog w = .ok (.pointer (some ⟨w.heap.size, 0, none⟩)) w' ∧ Mr s w' M w.heap.size n f (fun k => (f k).isSome) cnt ∧ cnt ≤ n ∧ Below w.heap.size w w' := by
  obtain ⟨D, h1, h2, h3⟩ := h
  obtain ⟨w', hr, h5, h6, h7⟩ := h1.range S.law S.und
  exact ⟨w', _, hr, ⟨D, _, h5, h2, h2, h3, fun k _ h => h⟩, h1.size_le, ⟨h6.os, h6.tape, h6.output, h6.size, fun i hi => h6.block i hi (by simp)⟩⟩
theorem Mr.next [DecidableEq K] {w : World} {M r n cnt : Nat} {f : K → Option V} {lf : K → Bool} (h : Mr s w M r n f lf cnt) (S : KvOk s) (A : KvAll s) :
    ((∀ k, s.ok k → lf k = false) ∧ ∀ ty, (Instr.next (.pointer (some ⟨r, 0, none⟩)) false ty).run Try.prog w = .ok (.tuple #[.bool false]) w) ∨
    ∃ k v w' cnt', s.ok k ∧ lf k = true ∧ (∀ ty, (Instr.next (.pointer (some ⟨r, 0, none⟩)) false ty).run Try.prog w = .ok (.tuple #[.bool true, s.kv k, v]) w') ∧ (Instr.entry (.pointer (some ⟨r, 0, none⟩))).run Try.prog w' = .ok (.tuple #[s.kv k, v]) w' ∧ Mr s w' M r n f (fun x => lf x && !(decide (x = k))) cnt' ∧ cnt' < cnt ∧ Kp (fun b => b = r) w w' := by
  obtain ⟨D, left, h1, h2, h3, h4, h5⟩ := h
  rcases h1.next S.law 0 with ⟨_, h0, hr⟩ | ⟨key, v, kl, y, w', cnt', hkey, hl, hv, hat, hr, hrg, hlt, hgr, hsz, hen⟩
  · exact .inl ⟨fun k hk => by rw [← h2 k hk]; exact h0 _, fun ty => hr⟩
  · obtain ⟨k, hk, rfl⟩ := A _ _ hkey
    have ek : s.kl k = kl := by
      have := S.key k hk
      rw [hkey] at this
      exact (Option.some.inj this).symm
    subst ek
    refine .inr ⟨k, v, w', cnt', hk, by rw [← h2 k hk]; exact hl, fun ty => hr, hen, ⟨D, _, hrg, fun x hx => ?_, h3, h4, fun x hx hl => h5 x hx (by simp at hl; exact hl.1)⟩, hlt, ⟨hgr.os, hgr.tape, hgr.output, hgr.size, fun b hb hne => hgr.block b hb (by simpa using hne)⟩⟩
    rw [h2 x hx]
    by_cases e : x = k
    · subst e
      rw [WideAt.sameKey_self (S.law.key (S.key x hx))]
      simp
    · rw [sameKey_ne (S.ne hx hk e)]
      simp [e]
end
theorem allU {v : Value} {l : Lit} (h : keyOf Try.prog 22 v = some l) : ∃ k, (Lit.int .u32 k).wf = true ∧ v = .int .u32 k := by
  obtain ⟨x, rfl, rfl, hw⟩ := Maps.keyOf_int_inv Try.underlying22 h
  exact ⟨x, hw, rfl⟩
theorem keyLits_int {d t : Nat} {q : IntKind} {v : Value} {ls : List Lit} (hu : Try.prog.underlying t = some (.int q)) (h : Try.prog.keyLits (d + 1) t [v] = some ls) : ∃ n, v = .int q n ∧ (Lit.int q n).wf = true := by
  unfold Program.keyLits at h
  rw [hu] at h
  cases v with
  | int q' n =>
    simp only at h
    split at h
    · rename_i hc
      exact ⟨n, by rw [hc.1], hc.2⟩
    · cases h
  | _ => cases h
theorem allA {v : Value} {l : Lit} (h : keyOf Try.prog 36 v = some l) : ∃ m k, (Lit.int .u32 m).wf = true ∧ (Lit.int .i64 k).wf = true ∧ v = ak m k := by
  obtain ⟨xs, L, rfl, h1, _⟩ := keyOf_top wide51 h
  rw [types109] at h1
  unfold Program.keyLits at h1
  simp only [Try.underlying36] at h1
  split at h1
  · rename_i hc
    obtain ⟨cs⟩ := xs
    simp only [cells51] at hc
    match cs, hc.1 with
    | [a, b], _ =>
      simp only [List.mapM_cons, List.mapM_nil, List.drop_zero, cells22, cells3, List.take_succ_cons, List.take_zero, List.drop_succ_cons] at h1
      cases e1 : Try.prog.keyLits 136 22 [a] with
      | none => rw [e1] at h1; cases h1
      | some la =>
        cases e2 : Try.prog.keyLits 136 3 [b] with
        | none => rw [e1, e2] at h1; cases h1
        | some lb =>
          obtain ⟨m, rfl, hm⟩ := keyLits_int Try.underlying22 e1
          obtain ⟨k, rfl, hk⟩ := keyLits_int Try.underlying3 e2
          exact ⟨m, k, hm, hk, rfl⟩
  · cases h1
theorem kvallB : KvAll kvB := fun v l h => by
  obtain ⟨m, k, hm, hk, rfl⟩ := allA h
  exact ⟨(m, k), ⟨hm, hk⟩, rfl⟩
/-- a way through no map. -/
theorem range_none (w : World) (t k e : TypeId) (ht : Try.prog.underlying t = some (.map k e)) : (Instr.range t (.map none)).run Try.prog w = .ok (.pointer (some ⟨w.heap.size, 0, none⟩)) (w.alloc (.mapIter none 0 #[] 0)) := by
  simp [Instr.range, run_underlying ht, newObj, Result.andThen]
  rfl
theorem next_none (w : World) (r : Nat) (ty : TypeId) (h : w.heap[r]? = some (.mapIter none 0 #[] 0)) : (Instr.next (.pointer (some ⟨r, 0, none⟩)) false ty).run Try.prog w = .ok (.tuple #[.bool false]) w := by
  simp [Instr.next, getObj, Sem.run_bind, Sem.run, h, Result.andThen]
end Go.Proofs.Ytphhllppgelceaa.Ac
