/-
  LvB
-/
import Derived.Test.YtlhbgaiiehljpaaGreatGAm
namespace Go.Proofs.YtlhbgaiiehljpaaGreat.Ac
open Go.RowKit Go.Deep Go.Maps MonM Go.Proofs.YtlhbgaiiehljpaaGreat
set_option linter.unusedVariables false
set_option linter.unusedSimpArgs false
set_option maxRecDepth 100000
/-- how keys and elements of a map read. -/
structure Kv (K V : Type) where
 kt : TypeId
 mt : TypeId
 et : TypeId
 R : Value → Option (DataW Unit × List MemPlace)
 ok : K → Prop
 kv : K → Value
 kl : K → Lit
 val : V → Value
 el : V → DataW Unit
 zero : V
/-- what stands of them. -/
structure KvOk {K V : Type} (s : Kv K V) : Prop where
 law : Keyed Tryz.prog s.kt
 und : Tryz.prog.underlying s.mt = some (.map s.kt s.et)
 key : ∀ k, s.ok k → keyOf Tryz.prog s.kt (s.kv k) = some (s.kl k)
 inj : ∀ k k', s.ok k → s.ok k' → s.kv k = s.kv k' → k = k'
 rd : ∀ v, s.R (s.val v) = some (s.el v, [])
 un : ∀ x v ps, s.R x = some (s.el v, ps) → x = s.val v
 z : ∀ w, (zeroValue s.et).run Tryz.prog w = .ok (s.val s.zero) w
def upd {K V : Type} [DecidableEq K] (f : K → Option V) (k : K) (v : V) : K → Option V := fun k' => if k' = k then some v else f k'
theorem upd_same {K V : Type} [DecidableEq K] (f : K → Option V) (k : K) (v : V) : upd f k v k = some v := if_pos rfl
theorem upd_other {K V : Type} [DecidableEq K] (f : K → Option V) {k k' : K} (v : V) (h : k' ≠ k) : upd f k v k' = f k' := if_neg h
/-- block M is a map that holds what f says. -/
def Mp {K V : Type} (s : Kv K V) (w : World) (M n : Nat) (f : K → Option V) : Prop :=
 ∃ D : DataW Unit, w.ownsMap Tryz.prog s.kt s.R M n D ∧ (∀ k, s.ok k → has D (s.kl k) = (f k).isSome) ∧ (∀ k v, s.ok k → f k = some v → ∀ z, D.atKey (s.kl k) z = s.el v)
section
variable {K V : Type} {s : Kv K V}
theorem Mp.lt {w : World} {M n : Nat} {f : K → Option V} (h : Mp s w M n f) : M < w.heap.size := by obtain ⟨D, h, _⟩ := h; exact h.lt
theorem Mp.same {w w' : World} {M n : Nat} {f : K → Option V} (h : Mp s w M n f) (hs : w'.heap[M]? = w.heap[M]?) : Mp s w' M n f := by
 obtain ⟨D, ⟨es, clock, h1, h2⟩, h3⟩ := h
 exact ⟨D, ⟨es, clock, hs.trans h1, h2⟩, h3⟩
theorem Mp.on {w w' : World} {M n : Nat} {f : K → Option V} (h : Mp s w M n f) (hb : Below w.heap.size w w') : Mp s w' M n f := h.same (hb.block M h.lt)
theorem Mp.kept {w w' : World} {F : Nat → Prop} {M n : Nat} {f : K → Option V} (h : Mp s w M n f) (hk : Kp F w w') (hF : ¬ F M) : Mp s w' M n f := h.same (hk.obj M h.lt hF)
theorem Mp.made (s : Kv K V) (w : World) : Mp s (w.alloc (.map #[] 0)) w.heap.size 0 (fun _ => none) := ⟨.map [], World.ownsMap_made _ _ _ _, fun k _ => rfl, fun k v _ h => by cases h⟩
theorem Mp.mono {w : World} {M n n' : Nat} {f : K → Option V} (h : Mp s w M n f) (hn : n ≤ n') : Mp s w M n' f := by
 obtain ⟨D, h1, h2⟩ := h
 exact ⟨D, h1.mono hn, h2⟩
theorem Mp.val {w : World} {M n : Nat} {f : K → Option V} (h : Mp s w M n f) (S : KvOk s) (k : K) (hk : s.ok k) : ∃ v, (Instr.lookup s.mt (.map (some M)) (s.kv k) true).run Tryz.prog w = .ok (.tuple #[v, .bool (f k).isSome]) w ∧ v = s.val ((f k).getD s.zero) := by
 obtain ⟨D, h1, h2, h3⟩ := h
 obtain ⟨v, ps, hr, hv⟩ := h1.look_ok S.law S.und (S.z w) (S.rd s.zero) (S.key k hk)
 rw [h2 k hk] at hr
 refine ⟨v, hr, ?_⟩
 cases e : f k with
 | none =>
  rw [atKey_of_not_has (by rw [h2 k hk, e]; rfl)] at hv
  exact S.un _ _ _ hv
 | some y =>
  rw [h3 k y hk e] at hv
  exact S.un _ _ _ hv
theorem Mp.look {w : World} {M n : Nat} {f : K → Option V} (h : Mp s w M n f) (S : KvOk s) (k : K) (hk : s.ok k) : (Instr.lookup s.mt (.map (some M)) (s.kv k) true).run Tryz.prog w = .ok (.tuple #[s.val ((f k).getD s.zero), .bool (f k).isSome]) w := by
 obtain ⟨v, h1, rfl⟩ := h.val S k hk
 exact h1
theorem Mp.get {w : World} {M n : Nat} {f : K → Option V} (h : Mp s w M n f) (S : KvOk s) (k : K) (hk : s.ok k) : (Instr.lookup s.mt (.map (some M)) (s.kv k) false).run Tryz.prog w = .ok (s.val ((f k).getD s.zero)) w := by
 obtain ⟨D, h1, h2, h3⟩ := h
 obtain ⟨v, ps, hr, hv⟩ := h1.lookup S.law S.und (S.z w) (S.rd s.zero) (S.key k hk)
 have e : v = s.val ((f k).getD s.zero) := by
  cases e : f k with
  | none =>
   rw [atKey_of_not_has (by rw [h2 k hk, e]; rfl)] at hv
   exact S.un _ _ _ hv
  | some y =>
   rw [h3 k y hk e] at hv
   exact S.un _ _ _ hv
 rw [← e]
 exact hr
theorem get_none (S : KvOk s) (w : World) (k : K) (hk : s.ok k) : (Instr.lookup s.mt (.map none) (s.kv k) false).run Tryz.prog w = .ok (s.val s.zero) w := Maps.look_nil false S.law S.und (S.z w) (S.key k hk)
theorem KvOk.ne (S : KvOk s) {k k' : K} (hk : s.ok k) (hk' : s.ok k') (h : k ≠ k') : s.kl k ≠ s.kl k' := fun e => h (S.inj k k' hk hk' (S.law.inj (S.key k hk) (by rw [e]; exact S.key k' hk')))
theorem Mp.put [DecidableEq K] {w : World} {M n : Nat} {f : K → Option V} (h : Mp s w M n f) (S : KvOk s) (hn : n < maxLen) (k : K) (hk : s.ok k) (v : V) :
  ∃ w', (Instr.mapUpdate s.mt (.map (some M)) (s.kv k) (s.val v)).run Tryz.prog w = .ok () w' ∧ Mp s w' M (n + 1) (upd f k v) ∧ Kp (fun b => b = M) w w' := by
 obtain ⟨D, h1, h2, h3⟩ := h
 obtain ⟨w', hr, h5, h6⟩ := h1.update S.law S.und hn (S.key k hk) (S.rd v)
 refine ⟨w', hr, ⟨_, h5, ?_, ?_⟩, ⟨h6.os, h6.tape, h6.output, h6.size, fun b hb hne => h6.block b hb (by simpa using hne)⟩⟩
 ·intro k' hk'
  by_cases e : k' = k
  ·subst e
   rw [has_put_same h1.isMap (S.law.key (S.key _ hk)), upd_same]; rfl
  ·rw [has_put_other (S.ne hk' hk e), h2 k' hk', upd_other f v e]
 ·intro k' v' hk' hf z
  by_cases e : k' = k
  ·subst e
   rw [upd_same] at hf
   cases hf
   exact atKey_put_same h1.isMap (S.law.key (S.key _ hk)) _ _
  ·rw [upd_other f v e] at hf
   rw [atKey_put_other (S.ne hk' hk e)]
   exact h3 k' v' hk' hf z
end
/-- every key of the type is one of ours. -/
def KvAll {K V : Type} (s : Kv K V) : Prop := ∀ v l, keyOf Tryz.prog s.kt v = some l → ∃ k, s.ok k ∧ v = s.kv k
/-- a way through a map; lf: what is still to come. -/
def Mr {K V : Type} (s : Kv K V) (w : World) (M r n : Nat) (f : K → Option V) (lf : K → Bool) (cnt : Nat) : Prop :=
 ∃ (D : DataW Unit) (left : Lit → Bool), w.ranges Tryz.prog s.kt s.R M r n D left cnt ∧ (∀ k, s.ok k → left (s.kl k) = lf k) ∧ (∀ k, s.ok k → has D (s.kl k) = (f k).isSome) ∧ (∀ k v, s.ok k → f k = some v → ∀ z, D.atKey (s.kl k) z = s.el v) ∧ (∀ k, s.ok k → lf k = true → (f k).isSome = true)
section
variable {K V : Type} {s : Kv K V}
theorem Mr.mp {w : World} {M r n cnt : Nat} {f : K → Option V} {lf : K → Bool} (h : Mr s w M r n f lf cnt) : Mp s w M n f := by
 obtain ⟨D, left, h1, _, h3, h4, _⟩ := h
 exact ⟨D, h1.owns, h3, h4⟩
theorem Mr.lt {w : World} {M r n cnt : Nat} {f : K → Option V} {lf : K → Bool} (h : Mr s w M r n f lf cnt) : r < w.heap.size := by
 obtain ⟨D, left, ⟨es, clock, since, seen, c0, a1, a2, a3, a4, a5, a6⟩, h2⟩ := h
 exact row_lt a5
theorem Mr.same {w w' : World} {M r n cnt : Nat} {f : K → Option V} {lf : K → Bool} (h : Mr s w M r n f lf cnt) (hM : w'.heap[M]? = w.heap[M]?) (hr : w'.heap[r]? = w.heap[r]?) : Mr s w' M r n f lf cnt := by
 obtain ⟨D, left, ⟨es, clock, since, seen, c0, a1, a2, a3, a4, a5, a6⟩, h2⟩ := h
 exact ⟨D, left, ⟨es, clock, since, seen, c0, hM.trans a1, a2, a3, a4, hr.trans a5, a6⟩, h2⟩
theorem Mr.on {w w' : World} {M r n cnt : Nat} {f : K → Option V} {lf : K → Bool} (h : Mr s w M r n f lf cnt) (hb : Below w.heap.size w w') : Mr s w' M r n f lf cnt := h.same (hb.block M h.mp.lt) (hb.block r h.lt)
theorem Mr.kept {w w' : World} {F : Nat → Prop} {M r n cnt : Nat} {f : K → Option V} {lf : K → Bool} (h : Mr s w M r n f lf cnt) (hk : Kp F w w') (hM : ¬ F M) (hr : ¬ F r) : Mr s w' M r n f lf cnt := h.same (hk.obj M h.mp.lt hM) (hk.obj r h.lt hr)
theorem Mp.range {w : World} {M n : Nat} {f : K → Option V} (h : Mp s w M n f) (S : KvOk s) : ∃ w' cnt, (Instr.range s.mt (.map (some M))).run Tryz.prog w = .ok (.pointer (some ⟨w.heap.size, 0, none⟩)) w' ∧ Mr s w' M w.heap.size n f (fun k => (f k).isSome) cnt ∧ cnt ≤ n ∧ Below w.heap.size w w' := by
 obtain ⟨D, h1, h2, h3⟩ := h
 obtain ⟨w', hr, h5, h6, h7⟩ := h1.range S.law S.und
 exact ⟨w', _, hr, ⟨D, _, h5, h2, h2, h3, fun k _ h => h⟩, h1.size_le, ⟨h6.os, h6.tape, h6.output, h6.size, fun i hi => h6.block i hi (by simp)⟩⟩
theorem Mr.next [DecidableEq K] {w : World} {M r n cnt : Nat} {f : K → Option V} {lf : K → Bool} (h : Mr s w M r n f lf cnt) (S : KvOk s) (A : KvAll s) :
  ((∀ k, s.ok k → lf k = false) ∧ ∀ ty, (Instr.next (.pointer (some ⟨r, 0, none⟩)) false ty).run Tryz.prog w = .ok (.tuple #[.bool false]) w) ∨
  ∃ k v w' cnt', s.ok k ∧ lf k = true ∧ (∀ ty, (Instr.next (.pointer (some ⟨r, 0, none⟩)) false ty).run Tryz.prog w = .ok (.tuple #[.bool true, s.kv k, v]) w') ∧ (Instr.entry (.pointer (some ⟨r, 0, none⟩))).run Tryz.prog w' = .ok (.tuple #[s.kv k, v]) w' ∧ Mr s w' M r n f (fun x => lf x && !(decide (x = k))) cnt' ∧ cnt' < cnt ∧ Kp (fun b => b = r) w w' := by
 obtain ⟨D, left, h1, h2, h3, h4, h5⟩ := h
 rcases h1.next S.law 0 with ⟨_, h0, hr⟩ | ⟨key, v, kl, y, w', cnt', hkey, hl, hv, hat, hr, hrg, hlt, hgr, hsz, hen⟩
 ·exact .inl ⟨fun k hk => by rw [← h2 k hk]; exact h0 _, fun ty => hr⟩
 ·obtain ⟨k, hk, rfl⟩ := A _ _ hkey
  have ek : s.kl k = kl := by
   have := S.key k hk
   rw [hkey] at this
   exact (Option.some.inj this).symm
  subst ek
  refine .inr ⟨k, v, w', cnt', hk, by rw [← h2 k hk]; exact hl, fun ty => hr, hen, ⟨D, _, hrg, fun x hx => ?_, h3, h4, fun x hx hl => h5 x hx (by simp at hl; exact hl.1)⟩, hlt, ⟨hgr.os, hgr.tape, hgr.output, hgr.size, fun b hb hne => hgr.block b hb (by simpa using hne)⟩⟩
  rw [h2 x hx]
  by_cases e : x = k
  ·subst e
   rw [WideAt.sameKey_self (S.law.key (S.key x hx))]
   simp
  ·rw [sameKey_ne (S.ne hx hk e)]
   simp [e]
end
def U32 (k : Int) : Prop := (Lit.int .u32 k).wf = true
theorem u32_mk {k : Int} (h0 : 0 ≤ k) (h1 : k < 4294967296) : U32 k := by simp [U32, Lit.wf, IntKind.min, IntKind.max, IntKind.signed, IntKind.bits]; omega
theorem lawU : Keyed Tryz.prog 36 := int_keyed Tryz.underlying36
def rd2l : List Value → Option (DataW Unit × List MemPlace)
 | [.int .u64 a, .int .u64 b] => some (.agg [.lit (.int .u64 a), .lit (.int .u64 b)], [])
 | _ => none
def rd2 : Value → Option (DataW Unit × List MemPlace)
 | .agg cs => rd2l cs.toList
 | _ => none
theorem rd2_inv {v : Value} {z : DataW Unit × List MemPlace} (h : rd2 v = some z) : ∃ a b, v = .agg #[.int .u64 a, .int .u64 b] ∧ z = (.agg [.lit (.int .u64 a), .lit (.int .u64 b)], []) := by
 unfold rd2 at h
 split at h
 ·rename_i cs
  obtain ⟨l⟩ := cs
  simp only at h
  unfold rd2l at h
  split at h
  ·cases h; exact ⟨_, _, rfl, rfl⟩
  ·cases h
 ·cases h
/-- sums by members. -/
def kvU : Kv Int Int where
 kt := 36
 mt := 85
 et := 33
 R := rd2
 ok := fun k => (Lit.int .u32 k).wf = true
 kv := fun k => .int .u32 k
 kl := fun k => .int .u32 k
 val := mv
 el := fun m => .agg [.lit (.int .u64 (hiW m)), .lit (.int .u64 (loW m))]
 zero := 0
theorem okU : KvOk kvU where
 law := lawU
 und := Tryz.underlying85
 key := fun k h => keyOf_int_mk Tryz.underlying36 h
 inj := fun k k' _ _ h => by
  have h : Value.int .u32 k = .int .u32 k' := h
  injection h
 rd := fun v => rfl
 un := fun x v ps h => by
  obtain ⟨a, b, rfl, e⟩ := rd2_inv (show rd2 x = _ from h)
  have e := congrArg Prod.fst e
  have e : DataW.agg [.lit (.int .u64 (hiW v)), .lit (.int .u64 (loW v))] = (DataW.agg [.lit (.int .u64 a), .lit (.int .u64 b)] : DataW Unit) := e
  injection e with e
  simp only [List.cons.injEq, DataW.lit.injEq, Lit.int.injEq, true_and, and_true] at e
  show _ = mv v
  unfold mv
  rw [e.1, e.2]
 z := fun w => by kernel_rfl
section
variable {K V : Type} {s : Kv K V}
def dlt {K V : Type} [DecidableEq K] (f : K → Option V) (k : K) : K → Option V := fun k' => if k' = k then none else f k'
theorem dlt_same {K V : Type} [DecidableEq K] (f : K → Option V) (k : K) : dlt f k k = none := if_pos rfl
theorem dlt_other {K V : Type} [DecidableEq K] (f : K → Option V) {k k' : K} (h : k' ≠ k) : dlt f k k' = f k' := if_neg h
theorem Mp.del [DecidableEq K] {w : World} {M n : Nat} {f : K → Option V} (h : Mp s w M n f) (S : KvOk s) (k : K) (hk : s.ok k) (ty : TypeId) :
  ∃ w', (Builtin.delete_ #[s.mt, s.kt] ty #[.map (some M), s.kv k]).run Tryz.prog w = .ok (.tuple #[]) w' ∧ Mp s w' M n (dlt f k) ∧ Kp (fun b => b = M) w w' := by
 obtain ⟨D, h1, h2, h3⟩ := h
 obtain ⟨w', hr, h5, h6⟩ := h1.drop S.law S.und (S.key k hk) ty
 have g6 := h6.grown
 refine ⟨w', hr, ⟨_, h5, ?_, ?_⟩, ⟨g6.os, g6.tape, g6.output, g6.size, fun b hb hne => g6.block b hb (by simpa using hne)⟩⟩
 ·intro k' hk'
  by_cases e : k' = k
  ·subst e
   rw [has_del_same, dlt_same]; rfl
  ·rw [has_del_other (S.ne hk' hk e), h2 k' hk', dlt_other f e]
 ·intro k' v' hk' hf z
  by_cases e : k' = k
  ·subst e
   rw [dlt_same] at hf
   cases hf
  ·rw [dlt_other f e] at hf
   rw [atKey_del_other (S.ne hk' hk e)]
   exact h3 k' v' hk' hf z
/-- a value is changed on the way. -/
theorem Mr.put [DecidableEq K] {w : World} {M r n cnt : Nat} {f : K → Option V} {lf : K → Bool} (h : Mr s w M r n f lf cnt) (S : KvOk s) (hn : n < maxLen) (k : K) (hk : s.ok k) (hf : (f k).isSome = true) (v : V) :
  ∃ w', (Instr.mapUpdate s.mt (.map (some M)) (s.kv k) (s.val v)).run Tryz.prog w = .ok () w' ∧ Mr s w' M r n (upd f k v) lf cnt ∧ Kp (fun b => b = M) w w' := by
 obtain ⟨D, left, h1, h2, h3, h4, h5⟩ := h
 obtain ⟨w', hr, h7, h6⟩ := ranges_turn h1 S.law S.und hn (S.key k hk) (S.rd v) (by rw [h3 k hk]; exact hf) (s.val s.zero) S.z _ (S.rd s.zero)
 have g6 := h6.grown
 refine ⟨w', hr, ⟨_, left, h7, h2, ?_, ?_, ?_⟩, ⟨g6.os, g6.tape, g6.output, g6.size, fun b hb hne => g6.block b hb (by simpa using hne)⟩⟩
 ·intro k' hk'
  by_cases e : k' = k
  ·subst e
   rw [has_put_same h1.owns.isMap (S.law.key (S.key _ hk)), upd_same]; rfl
  ·rw [has_put_other (S.ne hk' hk e), h3 k' hk', upd_other f v e]
 ·intro k' v' hk' hf z
  by_cases e : k' = k
  ·subst e
   rw [upd_same] at hf
   cases hf
   exact atKey_put_same h1.owns.isMap (S.law.key (S.key _ hk)) _ _
  ·rw [upd_other f v e] at hf
   rw [atKey_put_other (S.ne hk' hk e)]
   exact h4 k' v' hk' hf z
 ·intro k' hk' hl
  by_cases e : k' = k
  ·subst e
   rw [upd_same]; rfl
  ·rw [upd_other f v e]
   exact h5 k' hk' hl
end
/-- keys: a member and an instrument. -/
def hk (m i : Int) : Value := .agg #[.int .u32 m, .int .u32 i]
theorem cellsH : Tryz.prog.cellsOf 79 = 2 := by kernel_rfl
theorem cellsU : Tryz.prog.cellsOf 36 = 1 := by kernel_rfl
theorem wideH : (match Tryz.prog.underlying 79 with | some (.array _ _) | some (.struct _) => true | _ => false) = true := by rw [Tryz.underlying79]
theorem lawH : Keyed Tryz.prog 79 := Keyed.of_law (deep_law (m := 2) (by omega) (by kernel_rfl) (by kernel_rfl) wideH)
theorem typesN : Tryz.prog.types.size = 218 + 1 := by kernel_rfl
theorem ktH : Tryz.prog.keyType 79 = true := by kernel_rfl
theorem keyH {m k : Int} (hm : (Lit.int .u32 m).wf = true) (hk' : (Lit.int .u32 k).wf = true) : keyOf Tryz.prog 79 (hk m k) = some (.string (keyBytes [.int .u32 m, .int .u32 k])) := by
 unfold keyOf hk
 simp only [Tryz.underlying79]
 rw [if_pos (by simp [ktH, Value.formed, Tryz.underlying79, cellsH]), typesN]
 unfold Program.keyLits
 simp only [Tryz.underlying79, Value.cells]
 rw [if_pos (by rw [cellsH]; exact ⟨rfl, by kernel_rfl⟩)]
 unfold Program.keyLits
 simp [Tryz.underlying36, cellsU, hm, hk']
theorem keyLits_int {d t : Nat} {q : IntKind} {v : Value} {ls : List Lit} (hu : Tryz.prog.underlying t = some (.int q)) (h : Tryz.prog.keyLits (d + 1) t [v] = some ls) : ∃ n, v = .int q n ∧ (Lit.int q n).wf = true := by
 unfold Program.keyLits at h
 rw [hu] at h
 cases v with
 | int q' n =>
  simp only at h
  split at h
  ·rename_i hc
   exact ⟨n, by rw [hc.1], hc.2⟩
  ·cases h
 | _ => cases h
theorem allH {v : Value} {l : Lit} (h : keyOf Tryz.prog 79 v = some l) : ∃ m k, (Lit.int .u32 m).wf = true ∧ (Lit.int .u32 k).wf = true ∧ v = hk m k := by
 obtain ⟨xs, L, rfl, h1, _⟩ := keyOf_top wideH h
 rw [typesN] at h1
 unfold Program.keyLits at h1
 simp only [Tryz.underlying79] at h1
 split at h1
 ·rename_i hc
  obtain ⟨cs⟩ := xs
  simp only [cellsH] at hc
  match cs, hc.1 with
  | [a, b], _ =>
   simp only [List.mapM_cons, List.mapM_nil, List.drop_zero, cellsU, List.take_succ_cons, List.take_zero, List.drop_succ_cons] at h1
   cases e1 : Tryz.prog.keyLits 219 36 [a] with
   | none => rw [e1] at h1; cases h1
   | some la =>
    cases e2 : Tryz.prog.keyLits 219 36 [b] with
    | none => rw [e1, e2] at h1; cases h1
    | some lb =>
     obtain ⟨m, rfl, hm⟩ := keyLits_int Tryz.underlying36 e1
     obtain ⟨k, rfl, hk⟩ := keyLits_int Tryz.underlying36 e2
     exact ⟨m, k, hm, hk, rfl⟩
 ·cases h1
/-- a position: how many, at what value. -/
structure Pv where
 q : Int
 v : Int
def p0 : Pv := ⟨0, 0⟩
def pval (x : Pv) : Value := .agg #[.int .i64 x.q, .int .u64 (hiW x.v), .int .u64 (loW x.v)]
def rd3l : List Value → Option (DataW Unit × List MemPlace)
 | [.int .i64 a, .int .u64 b, .int .u64 c] => some (.agg [.lit (.int .i64 a), .lit (.int .u64 b), .lit (.int .u64 c)], [])
 | _ => none
def rd3 : Value → Option (DataW Unit × List MemPlace)
 | .agg cs => rd3l cs.toList
 | _ => none
theorem rd3_inv {v : Value} {z : DataW Unit × List MemPlace} (h : rd3 v = some z) : ∃ a b c, v = .agg #[.int .i64 a, .int .u64 b, .int .u64 c] ∧ z = (.agg [.lit (.int .i64 a), .lit (.int .u64 b), .lit (.int .u64 c)], []) := by
 unfold rd3 at h
 split at h
 ·rename_i cs
  obtain ⟨l⟩ := cs
  simp only at h
  unfold rd3l at h
  split at h
  ·cases h; exact ⟨_, _, _, rfl, rfl⟩
  ·cases h
 ·cases h
/-- positions by members and instruments. -/
def kvP : Kv (Int × Int) Pv where
 kt := 79
 mt := 98
 et := 109
 R := rd3
 ok := fun k => (Lit.int .u32 k.1).wf = true ∧ (Lit.int .u32 k.2).wf = true
 kv := fun k => hk k.1 k.2
 kl := fun k => .string (keyBytes [.int .u32 k.1, .int .u32 k.2])
 val := pval
 el := fun x => .agg [.lit (.int .i64 x.q), .lit (.int .u64 (hiW x.v)), .lit (.int .u64 (loW x.v))]
 zero := p0
theorem okP : KvOk kvP where
 law := lawH
 und := Tryz.underlying98
 key := fun k h => keyH h.1 h.2
 inj := fun k k' _ _ h => by
  have h : hk k.1 k.2 = hk k'.1 k'.2 := h
  unfold hk at h
  injection h with h
  injection h with h
  simp only [List.cons.injEq, Value.int.injEq, true_and, and_true] at h
  exact Prod.ext h.1 h.2
 rd := fun v => rfl
 un := fun x v ps h => by
  obtain ⟨a, b, c, rfl, e⟩ := rd3_inv (show rd3 x = _ from h)
  have e := congrArg Prod.fst e
  have e : DataW.agg [.lit (.int .i64 v.q), .lit (.int .u64 (hiW v.v)), .lit (.int .u64 (loW v.v))] = (DataW.agg [.lit (.int .i64 a), .lit (.int .u64 b), .lit (.int .u64 c)] : DataW Unit) := e
  injection e with e
  simp only [List.cons.injEq, DataW.lit.injEq, Lit.int.injEq, true_and, and_true] at e
  show _ = pval v
  unfold pval
  rw [← e.1, ← e.2.1, ← e.2.2]
 z := fun w => by kernel_rfl
theorem kvallP : KvAll kvP := fun v l h => by
 obtain ⟨m, k, hm, hk, rfl⟩ := allH h
 exact ⟨(m, k), ⟨hm, hk⟩, rfl⟩
/-- a rate. -/
structure Rt where
 i : Int
 pr : Int
 pa : Int
 b : Int
def rval (x : Rt) : Value := .agg #[.int .u32 x.i, .int .i64 x.pr, .int .u32 x.pa, .int .u32 x.b]
def rd4l : List Value → Option (DataW Unit × List MemPlace)
 | [.int .u32 a, .int .i64 b, .int .u32 c, .int .u32 d] => some (.agg [.lit (.int .u32 a), .lit (.int .i64 b), .lit (.int .u32 c), .lit (.int .u32 d)], [])
 | _ => none
def rd4 : Value → Option (DataW Unit × List MemPlace)
 | .agg cs => rd4l cs.toList
 | _ => none
theorem rd4_inv {v : Value} {z : DataW Unit × List MemPlace} (h : rd4 v = some z) : ∃ a b c d, v = .agg #[.int .u32 a, .int .i64 b, .int .u32 c, .int .u32 d] ∧ z = (.agg [.lit (.int .u32 a), .lit (.int .i64 b), .lit (.int .u32 c), .lit (.int .u32 d)], []) := by
 unfold rd4 at h
 split at h
 ·rename_i cs
  obtain ⟨l⟩ := cs
  simp only at h
  unfold rd4l at h
  split at h
  ·cases h; exact ⟨_, _, _, _, rfl, rfl⟩
  ·cases h
 ·cases h
/-- rates by instruments. -/
def kvR : Kv Int Rt where
 kt := 36
 mt := 113
 et := 61
 R := rd4
 ok := fun k => (Lit.int .u32 k).wf = true
 kv := fun k => .int .u32 k
 kl := fun k => .int .u32 k
 val := rval
 el := fun x => .agg [.lit (.int .u32 x.i), .lit (.int .i64 x.pr), .lit (.int .u32 x.pa), .lit (.int .u32 x.b)]
 zero := ⟨0, 0, 0, 0⟩
theorem okR : KvOk kvR where
 law := lawU
 und := Tryz.underlying113
 key := fun k h => keyOf_int_mk Tryz.underlying36 h
 inj := fun k k' _ _ h => by
  have h : Value.int .u32 k = .int .u32 k' := h
  injection h
 rd := fun v => rfl
 un := fun x v ps h => by
  obtain ⟨a, b, c, d, rfl, e⟩ := rd4_inv (show rd4 x = _ from h)
  have e := congrArg Prod.fst e
  have e : DataW.agg [.lit (.int .u32 v.i), .lit (.int .i64 v.pr), .lit (.int .u32 v.pa), .lit (.int .u32 v.b)] = (DataW.agg [.lit (.int .u32 a), .lit (.int .i64 b), .lit (.int .u32 c), .lit (.int .u32 d)] : DataW Unit) := e
  injection e with e
  simp only [List.cons.injEq, DataW.lit.injEq, Lit.int.injEq, true_and, and_true] at e
  show _ = rval v
  unfold rval
  rw [← e.1, ← e.2.1, ← e.2.2.1, ← e.2.2.2]
 z := fun w => by kernel_rfl
end Go.Proofs.YtlhbgaiiehljpaaGreat.Ac
