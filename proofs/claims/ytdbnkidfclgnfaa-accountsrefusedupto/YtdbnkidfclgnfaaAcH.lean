/-
  Maps that the calls made, as functions.
-/
import Derived.Test.YtdbnkidfclgnfaaAcC
import Derived.Maps.OwnSet
import Derived.Maps.Views
import Derived.Maps.RangeWalk
import Derived.DeepKeys3
namespace Go.Proofs.Ytdbnkidfclgnfaa.Ac
open Go.RowKit Go.Deep Go.Maps Go.Proofs.Ytdbnkidfclgnfaa.MonM
set_option linter.unusedVariables false
set_option linter.unusedSimpArgs false
set_option maxRecDepth 100000
/-- how keys and elements of a map read. -/
structure Kv (K V : Type) where
  kt : TypeId
  mt : TypeId
  et : TypeId
  R : Value → Option (DataW Unit × List MemPlace)
  ok : K → Prop
  kv : K → Value
  kl : K → Lit
  val : V → Value
  el : V → DataW Unit
  zero : V
/-- what stands of them. -/
structure KvOk {K V : Type} (s : Kv K V) : Prop where
  law : Keyed Try.prog s.kt
  und : Try.prog.underlying s.mt = some (.map s.kt s.et)
  key : ∀ k, s.ok k → keyOf Try.prog s.kt (s.kv k) = some (s.kl k)
  inj : ∀ k k', s.ok k → s.ok k' → s.kv k = s.kv k' → k = k'
  rd : ∀ v, s.R (s.val v) = some (s.el v, [])
  un : ∀ x v ps, s.R x = some (s.el v, ps) → x = s.val v
  z : ∀ w, (zeroValue s.et).run Try.prog w = .ok (s.val s.zero) w
def upd {K V : Type} [DecidableEq K] (f : K → Option V) (k : K) (v : V) : K → Option V := fun k' => if k' = k then some v else f k'
theorem upd_same {K V : Type} [DecidableEq K] (f : K → Option V) (k : K) (v : V) : upd f k v k = some v := if_pos rfl
theorem upd_other {K V : Type} [DecidableEq K] (f : K → Option V) {k k' : K} (v : V) (h : k' ≠ k) : upd f k v k' = f k' := if_neg h
/-- block M is a map that holds what f says. -/
def Mp {K V : Type} (s : Kv K V) (w : World) (M n : Nat) (f : K → Option V) : Prop :=
  ∃ D : DataW Unit, w.ownsMap Try.prog s.kt s.R M n D ∧ (∀ k, s.ok k → has D (s.kl k) = (f k).isSome) ∧ (∀ k v, s.ok k → f k = some v → ∀ z, D.atKey (s.kl k) z = s.el v)
section
variable {K V : Type} {s : Kv K V}
theorem Mp.lt {w : World} {M n : Nat} {f : K → Option V} (h : Mp s w M n f) : M < w.heap.size := by obtain ⟨D, h, _⟩ := h; exact h.lt
theorem Mp.same {w w' : World} {M n : Nat} {f : K → Option V} (h : Mp s w M n f) (hs : w'.heap[M]? = w.heap[M]?) : Mp s w' M n f := by
  obtain ⟨D, ⟨es, clock, h1, h2⟩, h3⟩ := h
  exact ⟨D, ⟨es, clock, hs.trans h1, h2⟩, h3⟩
theorem Mp.on {w w' : World} {M n : Nat} {f : K → Option V} (h : Mp s w M n f) (hb : Below w.heap.size w w') : Mp s w' M n f := h.same (hb.block M h.lt)
theorem Mp.kept {w w' : World} {F : Nat → Prop} {M n : Nat} {f : K → Option V} (h : Mp s w M n f) (hk : Kp F w w') (hF : ¬ F M) : Mp s w' M n f := h.same (hk.obj M h.lt hF)
theorem Mp.made (s : Kv K V) (w : World) : Mp s (w.alloc (.map #[] 0)) w.heap.size 0 (fun _ => none) := ⟨.map [], World.ownsMap_made _ _ _ _, fun k _ => rfl, fun k v _ h => by cases h⟩
theorem Mp.mono {w : World} {M n n' : Nat} {f : K → Option V} (h : Mp s w M n f) (hn : n ≤ n') : Mp s w M n' f := by
  obtain ⟨D, h1, h2⟩ := h
  exact ⟨D, h1.mono hn, h2⟩
theorem Mp.val {w : World} {M n : Nat} {f : K → Option V} (h : Mp s w M n f) (S : KvOk s) (k : K) (hk : s.ok k) : ∃ v, (Instr.lookup s.mt (.map (some M)) (s.kv k) true).run Try.prog w = .ok (.tuple #[v, .bool (f k).isSome]) w ∧ v = s.val ((f k).getD s.zero) := by
  obtain ⟨D, h1, h2, h3⟩ := h
  obtain ⟨v, ps, hr, hv⟩ := h1.look_ok S.law S.und (S.z w) (S.rd s.zero) (S.key k hk)
  rw [h2 k hk] at hr
  refine ⟨v, hr, ?_⟩
  cases e : f k with
  | none =>
    rw [atKey_of_not_has (by rw [h2 k hk, e]; rfl)] at hv
    exact S.un _ _ _ hv
  | some y =>
    rw [h3 k y hk e] at hv
    exact S.un _ _ _ hv
theorem Mp.look {w : World} {M n : Nat} {f : K → Option V} (h : Mp s w M n f) (S : KvOk s) (k : K) (hk : s.ok k) : (Instr.lookup s.mt (.map (some M)) (s.kv k) true).run Try.prog w = .ok (.tuple #[s.val ((f k).getD s.zero), .bool (f k).isSome]) w := by
  obtain ⟨v, h1, rfl⟩ := h.val S k hk
  exact h1
theorem Mp.get {w : World} {M n : Nat} {f : K → Option V} (h : Mp s w M n f) (S : KvOk s) (k : K) (hk : s.ok k) : (Instr.lookup s.mt (.map (some M)) (s.kv k) false).run Try.prog w = .ok (s.val ((f k).getD s.zero)) w := by
  obtain ⟨D, h1, h2, h3⟩ := h
  obtain ⟨v, ps, hr, hv⟩ := h1.lookup S.law S.und (S.z w) (S.rd s.zero) (S.key k hk)
  have e : v = s.val ((f k).getD s.zero) := by
    cases e : f k with
    | none =>
      rw [atKey_of_not_has (by rw [h2 k hk, e]; rfl)] at hv
      exact S.un _ _ _ hv
    | some y =>
      rw [h3 k y hk e] at hv
      exact S.un _ _ _ hv
  rw [← e]
  exact hr
theorem look_none (S : KvOk s) (w : World) (k : K) (hk : s.ok k) : (Instr.lookup s.mt (.map none) (s.kv k) true).run Try.prog w = .ok (.tuple #[s.val s.zero, .bool false]) w := Maps.look_nil true S.law S.und (S.z w) (S.key k hk)
theorem get_none (S : KvOk s) (w : World) (k : K) (hk : s.ok k) : (Instr.lookup s.mt (.map none) (s.kv k) false).run Try.prog w = .ok (s.val s.zero) w := Maps.look_nil false S.law S.und (S.z w) (S.key k hk)
theorem KvOk.ne (S : KvOk s) {k k' : K} (hk : s.ok k) (hk' : s.ok k') (h : k ≠ k') : s.kl k ≠ s.kl k' := fun e => h (S.inj k k' hk hk' (S.law.inj (S.key k hk) (by rw [e]; exact S.key k' hk')))
theorem Mp.put [DecidableEq K] {w : World} {M n : Nat} {f : K → Option V} (h : Mp s w M n f) (S : KvOk s) (hn : n < maxLen) (k : K) (hk : s.ok k) (v : V) :
    ∃ w', (Instr.mapUpdate s.mt (.map (some M)) (s.kv k) (s.val v)).run Try.prog w = .ok () w' ∧ Mp s w' M (n + 1) (upd f k v) ∧ Kp (fun b => b = M) w w' := by
  obtain ⟨D, h1, h2, h3⟩ := h
  obtain ⟨w', hr, h5, h6⟩ := h1.update S.law S.und hn (S.key k hk) (S.rd v)
  refine ⟨w', hr, ⟨_, h5, ?_, ?_⟩, ⟨h6.os, h6.tape, h6.output, h6.size, fun b hb hne => h6.block b hb (by simpa using hne)⟩⟩
  · intro k' hk'
    by_cases e : k' = k
    · subst e
      rw [has_put_same h1.isMap (S.law.key (S.key _ hk)), upd_same]; rfl
    · rw [has_put_other (S.ne hk' hk e), h2 k' hk', upd_other f v e]
  · intro k' v' hk' hf z
    by_cases e : k' = k
    · subst e
      rw [upd_same] at hf
      cases hf
      exact atKey_put_same h1.isMap (S.law.key (S.key _ hk)) _ _
    · rw [upd_other f v e] at hf
      rw [atKey_put_other (S.ne hk' hk e)]
      exact h3 k' v' hk' hf z
end
/-- an account. -/
def ak (m k : Int) : Value := .agg #[.int .u32 m, .int .i64 k]
theorem cells51 : Try.prog.cellsOf 51 = 2 := by kernel_rfl
theorem cells22 : Try.prog.cellsOf 22 = 1 := by kernel_rfl
theorem cells3 : Try.prog.cellsOf 3 = 1 := by kernel_rfl
theorem wide51 : (match Try.prog.underlying 51 with | some (.array _ _) | some (.struct _) => true | _ => false) = true := by rw [Try.underlying51]
theorem lawA : Keyed Try.prog 51 := Keyed.of_law (deep_law (m := 2) (by omega) (by kernel_rfl) (by kernel_rfl) wide51)
theorem lawU : Keyed Try.prog 22 := int_keyed Try.underlying22
theorem types109 : Try.prog.types.size = 108 + 1 := by kernel_rfl
theorem kt51 : Try.prog.keyType 51 = true := by kernel_rfl
theorem keyA {m k : Int} (hm : (Lit.int .u32 m).wf = true) (hk : (Lit.int .i64 k).wf = true) : keyOf Try.prog 51 (ak m k) = some (.string (keyBytes [.int .u32 m, .int .i64 k])) := by
  unfold keyOf ak
  simp only [Try.underlying51]
  rw [if_pos (by simp [kt51, Value.formed, Try.underlying51, cells51]), types109]
  unfold Program.keyLits
  simp only [Try.underlying51, Value.cells]
  rw [if_pos (by rw [cells51]; exact ⟨rfl, by kernel_rfl⟩)]
  unfold Program.keyLits
  simp [Try.underlying22, Try.underlying3, cells22, cells3, hm, hk]
def rd2l : List Value → Option (DataW Unit × List MemPlace)
  | [.int .u64 a, .int .u64 b] => some (.agg [.lit (.int .u64 a), .lit (.int .u64 b)], [])
  | _ => none
def rd2 : Value → Option (DataW Unit × List MemPlace)
  | .agg cs => rd2l cs.toList
  | _ => none
theorem rd2_inv {v : Value} {z : DataW Unit × List MemPlace} (h : rd2 v = some z) : ∃ a b, v = .agg #[.int .u64 a, .int .u64 b] ∧ z = (.agg [.lit (.int .u64 a), .lit (.int .u64 b)], []) := by
  unfold rd2 at h
  split at h
  · rename_i cs
    obtain ⟨l⟩ := cs
    simp only at h
    unfold rd2l at h
    split at h
    · cases h; exact ⟨_, _, rfl, rfl⟩
    · cases h
  · cases h
/-- balances. -/
def kvB : Kv (Int × Int) Int where
  kt := 51
  mt := 53
  et := 36
  R := rd2
  ok := fun k => (Lit.int .u32 k.1).wf = true ∧ (Lit.int .i64 k.2).wf = true
  kv := fun k => ak k.1 k.2
  kl := fun k => .string (keyBytes [.int .u32 k.1, .int .i64 k.2])
  val := mv
  el := fun m => .agg [.lit (.int .u64 (hiW m)), .lit (.int .u64 (loW m))]
  zero := 0
theorem okB : KvOk kvB where
  law := lawA
  und := Try.underlying53
  key := fun k h => keyA h.1 h.2
  inj := fun k k' _ _ h => by
    have h : ak k.1 k.2 = ak k'.1 k'.2 := h
    unfold ak at h
    injection h with h
    injection h with h
    simp only [List.cons.injEq, Value.int.injEq, true_and, and_true] at h
    exact Prod.ext h.1 h.2
  rd := fun v => rfl
  un := fun x v ps h => by
    obtain ⟨a, b, rfl, e⟩ := rd2_inv (show rd2 x = _ from h)
    have e := congrArg Prod.fst e
    have e : DataW.agg [.lit (.int .u64 (hiW v)), .lit (.int .u64 (loW v))] = (DataW.agg [.lit (.int .u64 a), .lit (.int .u64 b)] : DataW Unit) := e
    injection e with e
    simp only [List.cons.injEq, DataW.lit.injEq, Lit.int.injEq, true_and, and_true] at e
    show _ = mv v
    unfold mv
    rw [e.1, e.2]
  z := fun w => by kernel_rfl
/-- a member's positions, by instruments. -/
def rd5l : List Value → Option (DataW Unit × List MemPlace)
  | [.int .i64 q, .int .u64 a, .int .u64 b, .int .u64 c, .int .u64 d] => some (.agg [.lit (.int .i64 q), .lit (.int .u64 a), .lit (.int .u64 b), .lit (.int .u64 c), .lit (.int .u64 d)], [])
  | _ => none
def rd5 : Value → Option (DataW Unit × List MemPlace)
  | .agg cs => rd5l cs.toList
  | _ => none
theorem rd5_inv {v : Value} {z : DataW Unit × List MemPlace} (h : rd5 v = some z) : ∃ q a b c d, v = .agg #[.int .i64 q, .int .u64 a, .int .u64 b, .int .u64 c, .int .u64 d] ∧ z = (.agg [.lit (.int .i64 q), .lit (.int .u64 a), .lit (.int .u64 b), .lit (.int .u64 c), .lit (.int .u64 d)], []) := by
  unfold rd5 at h
  split at h
  · rename_i cs
    obtain ⟨l⟩ := cs
    simp only at h
    unfold rd5l at h
    split at h
    · cases h; exact ⟨_, _, _, _, _, rfl, rfl⟩
    · cases h
  · cases h
def po0 : Po := ⟨0, 0, 0⟩
def kvP : Kv Int Po where
  kt := 22
  mt := 57
  et := 38
  R := rd5
  ok := fun k => (Lit.int .u32 k).wf = true
  kv := fun k => .int .u32 k
  kl := fun k => .int .u32 k
  val := fun p => .agg p.row
  el := fun p => .agg [.lit (.int .i64 p.qt), .lit (.int .u64 (hiW p.co)), .lit (.int .u64 (loW p.co)), .lit (.int .u64 (hiW p.ga)), .lit (.int .u64 (loW p.ga))]
  zero := po0
theorem okP : KvOk kvP where
  law := lawU
  und := Try.underlying57
  key := fun k h => keyOf_int_mk Try.underlying22 h
  inj := fun k k' _ _ h => by
    have h : Value.int .u32 k = .int .u32 k' := h
    injection h
  rd := fun v => rfl
  un := fun x v ps h => by
    obtain ⟨q, a, b, c, d, rfl, e⟩ := rd5_inv (show rd5 x = _ from h)
    have e := congrArg Prod.fst e
    have e : DataW.agg [.lit (.int .i64 v.qt), .lit (.int .u64 (hiW v.co)), .lit (.int .u64 (loW v.co)), .lit (.int .u64 (hiW v.ga)), .lit (.int .u64 (loW v.ga))] = (DataW.agg [.lit (.int .i64 q), .lit (.int .u64 a), .lit (.int .u64 b), .lit (.int .u64 c), .lit (.int .u64 d)] : DataW Unit) := e
    injection e with e
    simp only [List.cons.injEq, DataW.lit.injEq, Lit.int.injEq, true_and, and_true] at e
    show _ = Value.agg v.row
    unfold Po.row
    rw [e.1, e.2.1, e.2.2.1, e.2.2.2.1, e.2.2.2.2]
  z := fun w => by kernel_rfl
/-- members' maps. -/
def rdo : Value → Option (DataW Unit × List MemPlace)
  | .map none => some (.nil, [])
  | .map (some b) => some (.lit (.int .u64 b), [])
  | _ => none
def kvM : Kv Int (Option Nat) where
  kt := 22
  mt := 54
  et := 57
  R := rdo
  ok := fun k => (Lit.int .u32 k).wf = true
  kv := fun k => .int .u32 k
  kl := fun k => .int .u32 k
  val := fun o => .map o
  el := fun o => match o with | none => .nil | some b => .lit (.int .u64 b)
  zero := none
theorem okM : KvOk kvM where
  law := lawU
  und := Try.underlying54
  key := fun k h => keyOf_int_mk Try.underlying22 h
  inj := fun k k' _ _ h => by
    have h : Value.int .u32 k = .int .u32 k' := h
    injection h
  rd := fun v => by cases v <;> rfl
  un := fun x v ps h => by
    have h1 : rdo x = _ := h
    clear h
    cases x with
    | map o =>
      cases o with
      | none =>
        cases v with
        | none => rfl
        | some b => cases h1
      | some b =>
        cases v with
        | none => cases h1
        | some b' =>
          have h : some ((.lit (.int .u64 (b : Int)) : DataW Unit), ([] : List MemPlace)) = some (.lit (.int .u64 (b' : Int)), ps) := h1
          injection h with h
          have h := congrArg Prod.fst h
          injection h with h
          injection h with _ h
          have : b = b' := by omega
          subst this
          rfl
    | _ => cases h1
  z := fun w => by kernel_rfl
end Go.Proofs.Ytdbnkidfclgnfaa.Ac
