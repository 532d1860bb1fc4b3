/-
  Maps that the calls made, as functions.
-/
import Derived.Test.YtphhllppgelceaaAcC
import Derived.Maps.OwnSet
import Derived.Maps.Views
import Derived.Maps.RangeWalk
import Derived.DeepKeys3
import Derived.OwnWalk
namespace Go.Proofs.Ytphhllppgelceaa.Ac
open Go.RowKit Go.Deep Go.Maps Go.Proofs.Ytphhllppgelceaa.MonM
set_option linter.unusedVariables false
set_option linter.unusedSimpArgs false
set_option maxRecDepth 100000
/-- how keys and elements of a map read. -/
structure Kv (K V : Type) where
  kt : TypeId
  mt : TypeId
  et : TypeId
  R : Value → Option (DataW Unit × List MemPlace)
  ok : K → Prop
  kv : K → Value
  kl : K → Lit
  val : V → Value
  el : V → DataW Unit
  zero : V
/-- what stands of them. -/
structure KvOk {K V : Type} (s : Kv K V) : Prop where
  law : Keyed Try.prog s.kt
  und : Try.prog.underlying s.mt = some (.map s.kt s.et)
  key : ∀ k, s.ok k → keyOf Try.prog s.kt (s.kv k) = some (s.kl k)
  inj : ∀ k k', s.ok k → s.ok k' → s.kv k = s.kv k' → k = k'
  rd : ∀ v, s.R (s.val v) = some (s.el v, [])
  un : ∀ x v ps, s.R x = some (s.el v, ps) → x = s.val v
  z : ∀ w, (zeroValue s.et).run Try.prog w = .ok (s.val s.zero) w
def upd {K V : Type} [DecidableEq K] (f : K → Option V) (k : K) (v : V) : K → Option V := fun k' => if k' = k then some v else f k'
theorem upd_same {K V : Type} [DecidableEq K] (f : K → Option V) (k : K) (v : V) : upd f k v k = some v := if_pos rfl
theorem upd_other {K V : Type} [DecidableEq K] (f : K → Option V) {k k' : K} (v : V) (h : k' ≠ k) : upd f k v k' = f k' := if_neg h
/-- block M is a map that holds what f says. -/
def Mp {K V : Type} (s : Kv K V) (w : World) (M n : Nat) (f : K → Option V) : Prop :=
  ∃ D : DataW Unit, w.ownsMap Try.prog s.kt s.R M n D ∧ (∀ k, s.ok k → has D (s.kl k) = (f k).isSome) ∧ (∀ k v, s.ok k → f k = some v → ∀ z, D.atKey (s.kl k) z = s.el v)
section
variable {K V : Type} {s : Kv K V}
theorem Mp.lt {w : World} {M n : Nat} {f : K → Option V} (h : Mp s w M n f) : M < w.heap.size := by obtain ⟨D, h, _⟩ := h; exact h.lt
theorem Mp.same {w w' : World} {M n : Nat} {f : K → Option V} (h : Mp s w M n f) (hs : w'.heap[M]? = w.heap[M]?) : Mp s w' M n f := by
  obtain ⟨D, ⟨es, clock, h1, h2⟩, h3⟩ := h
  exact ⟨D, ⟨es, clock, hs.trans h1, h2⟩, h3⟩
theorem Mp.on {w w' : World} {M n : Nat} {f : K → Option V} (h : Mp s w M n f) (hb : Below w.heap.size w w') : Mp s w' M n f := h.same (hb.block M h.lt)
theorem Mp.kept {w w' : World} {F : Nat → Prop} {M n : Nat} {f : K → Option V} (h : Mp s w M n f) (hk : Kp F w w') (hF : ¬ F M) : Mp s w' M n f := h.same (hk.obj M h.lt hF)
theorem Mp.made (s : Kv K V) (w : World) : Mp s (w.alloc (.map #[] 0)) w.heap.size 0 (fun _ => none) := ⟨.map [], World.ownsMap_made _ _ _ _, fun k _ => rfl, fun k v _ h => by cases h⟩
theorem Mp.mono {w : World} {M n n' : Nat} {f : K → Option V} (h : Mp s w M n f) (hn : n ≤ n') : Mp s w M n' f := by
  obtain ⟨D, h1, h2⟩ := h
  exact ⟨D, h1.mono hn, h2⟩
theorem Mp.val {w : World} {M n : Nat} {f : K → Option V} (h : Mp s w M n f) (S : KvOk s) (k : K) (hk : s.ok k) : ∃ v, (Instr.lookup s.mt (.map (some M)) (s.kv k) true).run Try.prog w = .ok (.tuple #[v, .bool (f k).isSome]) w ∧ v = s.val ((f k).getD s.zero) := by
  obtain ⟨D, h1, h2, h3⟩ := h
  obtain ⟨v, ps, hr, hv⟩ := h1.look_ok S.law S.und (S.z w) (S.rd s.zero) (S.key k hk)
  rw [h2 k hk] at hr
  refine ⟨v, hr, ?_⟩
  cases e : f k with
  | none =>
    rw [atKey_of_not_has (by rw [h2 k hk, e]; rfl)] at hv
    exact S.un _ _ _ hv
  | some y =>
    rw [h3 k y hk e] at hv
    exact S.un _ _ _ hv
theorem Mp.look {w : World} {M n : Nat} {f : K → Option V} (h : Mp s w M n f) (S : KvOk s) (k : K) (hk : s.ok k) : (Instr.lookup s.mt (.map (some M)) (s.kv k) true).run Try.prog w = .ok (.tuple #[s.val ((f k).getD s.zero), .bool (f k).isSome]) w := by
  obtain ⟨v, h1, rfl⟩ := h.val S k hk
  exact h1
theorem Mp.get {w : World} {M n : Nat} {f : K → Option V} (h : Mp s w M n f) (S : KvOk s) (k : K) (hk : s.ok k) : (Instr.lookup s.mt (.map (some M)) (s.kv k) false).run Try.prog w = .ok (s.val ((f k).getD s.zero)) w := by
  obtain ⟨D, h1, h2, h3⟩ := h
  obtain ⟨v, ps, hr, hv⟩ := h1.lookup S.law S.und (S.z w) (S.rd s.zero) (S.key k hk)
  have e : v = s.val ((f k).getD s.zero) := by
    cases e : f k with
    | none =>
      rw [atKey_of_not_has (by rw [h2 k hk, e]; rfl)] at hv
      exact S.un _ _ _ hv
    | some y =>
      rw [h3 k y hk e] at hv
      exact S.un _ _ _ hv
  rw [← e]
  exact hr
theorem look_none (S : KvOk s) (w : World) (k : K) (hk : s.ok k) : (Instr.lookup s.mt (.map none) (s.kv k) true).run Try.prog w = .ok (.tuple #[s.val s.zero, .bool false]) w := Maps.look_nil true S.law S.und (S.z w) (S.key k hk)
theorem get_none (S : KvOk s) (w : World) (k : K) (hk : s.ok k) : (Instr.lookup s.mt (.map none) (s.kv k) false).run Try.prog w = .ok (s.val s.zero) w := Maps.look_nil false S.law S.und (S.z w) (S.key k hk)
theorem KvOk.ne (S : KvOk s) {k k' : K} (hk : s.ok k) (hk' : s.ok k') (h : k ≠ k') : s.kl k ≠ s.kl k' := fun e => h (S.inj k k' hk hk' (S.law.inj (S.key k hk) (by rw [e]; exact S.key k' hk')))
theorem Mp.put [DecidableEq K] {w : World} {M n : Nat} {f : K → Option V} (h : Mp s w M n f) (S : KvOk s) (hn : n < maxLen) (k : K) (hk : s.ok k) (v : V) :
    ∃ w', (Instr.mapUpdate s.mt (.map (some M)) (s.kv k) (s.val v)).run Try.prog w = .ok () w' ∧ Mp s w' M (n + 1) (upd f k v) ∧ Kp (fun b => b = M) w w' := by
  obtain ⟨D, h1, h2, h3⟩ := h
  obtain ⟨w', hr, h5, h6⟩ := h1.update S.law S.und hn (S.key k hk) (S.rd v)
  refine ⟨w', hr, ⟨_, h5, ?_, ?_⟩, ⟨h6.os, h6.tape, h6.output, h6.size, fun b hb hne => h6.block b hb (by simpa using hne)⟩⟩
  · intro k' hk'
    by_cases e : k' = k
    · subst e
      rw [has_put_same h1.isMap (S.law.key (S.key _ hk)), upd_same]; rfl
    · rw [has_put_other (S.ne hk' hk e), h2 k' hk', upd_other f v e]
  · intro k' v' hk' hf z
    by_cases e : k' = k
    · subst e
      rw [upd_same] at hf
      cases hf
      exact atKey_put_same h1.isMap (S.law.key (S.key _ hk)) _ _
    · rw [upd_other f v e] at hf
      rw [atKey_put_other (S.ne hk' hk e)]
      exact h3 k' v' hk' hf z
end
/-- an account. -/
def ak (m k : Int) : Value := .agg #[.int .u32 m, .int .i64 k]
theorem cells51 : Try.prog.cellsOf 36 = 2 := by kernel_rfl
theorem cells22 : Try.prog.cellsOf 22 = 1 := by kernel_rfl
theorem cells3 : Try.prog.cellsOf 3 = 1 := by kernel_rfl
theorem wide51 : (match Try.prog.underlying 36 with | some (.array _ _) | some (.struct _) => true | _ => false) = true := by rw [Try.underlying36]
theorem lawA : Keyed Try.prog 36 := Keyed.of_law (deep_law (m := 2) (by omega) (by kernel_rfl) (by kernel_rfl) wide51)
theorem lawU : Keyed Try.prog 22 := int_keyed Try.underlying22
theorem types109 : Try.prog.types.size = 135 + 1 := by kernel_rfl
theorem kt51 : Try.prog.keyType 36 = true := by kernel_rfl
theorem keyA {m k : Int} (hm : (Lit.int .u32 m).wf = true) (hk : (Lit.int .i64 k).wf = true) : keyOf Try.prog 36 (ak m k) = some (.string (keyBytes [.int .u32 m, .int .i64 k])) := by
  unfold keyOf ak
  simp only [Try.underlying36]
  rw [if_pos (by simp [kt51, Value.formed, Try.underlying36, cells51]), types109]
  unfold Program.keyLits
  simp only [Try.underlying36, Value.cells]
  rw [if_pos (by rw [cells51]; exact ⟨rfl, by kernel_rfl⟩)]
  unfold Program.keyLits
  simp [Try.underlying22, Try.underlying3, cells22, cells3, hm, hk]
def rd2l : List Value → Option (DataW Unit × List MemPlace)
  | [.int .u64 a, .int .u64 b] => some (.agg [.lit (.int .u64 a), .lit (.int .u64 b)], [])
  | _ => none
def rd2 : Value → Option (DataW Unit × List MemPlace)
  | .agg cs => rd2l cs.toList
  | _ => none
theorem rd2_inv {v : Value} {z : DataW Unit × List MemPlace} (h : rd2 v = some z) : ∃ a b, v = .agg #[.int .u64 a, .int .u64 b] ∧ z = (.agg [.lit (.int .u64 a), .lit (.int .u64 b)], []) := by
  unfold rd2 at h
  split at h
  · rename_i cs
    obtain ⟨l⟩ := cs
    simp only at h
    unfold rd2l at h
    split at h
    · cases h; exact ⟨_, _, rfl, rfl⟩
    · cases h
  · cases h
/-- balances. -/
def kvB : Kv (Int × Int) Int where
  kt := 36
  mt := 63
  et := 40
  R := rd2
  ok := fun k => (Lit.int .u32 k.1).wf = true ∧ (Lit.int .i64 k.2).wf = true
  kv := fun k => ak k.1 k.2
  kl := fun k => .string (keyBytes [.int .u32 k.1, .int .i64 k.2])
  val := mv
  el := fun m => .agg [.lit (.int .u64 (hiW m)), .lit (.int .u64 (loW m))]
  zero := 0
theorem okB : KvOk kvB where
  law := lawA
  und := Try.underlying63
  key := fun k h => keyA h.1 h.2
  inj := fun k k' _ _ h => by
    have h : ak k.1 k.2 = ak k'.1 k'.2 := h
    unfold ak at h
    injection h with h
    injection h with h
    simp only [List.cons.injEq, Value.int.injEq, true_and, and_true] at h
    exact Prod.ext h.1 h.2
  rd := fun v => rfl
  un := fun x v ps h => by
    obtain ⟨a, b, rfl, e⟩ := rd2_inv (show rd2 x = _ from h)
    have e := congrArg Prod.fst e
    have e : DataW.agg [.lit (.int .u64 (hiW v)), .lit (.int .u64 (loW v))] = (DataW.agg [.lit (.int .u64 a), .lit (.int .u64 b)] : DataW Unit) := e
    injection e with e
    simp only [List.cons.injEq, DataW.lit.injEq, Lit.int.injEq, true_and, and_true] at e
    show _ = mv v
    unfold mv
    rw [e.1, e.2]
  z := fun w => by kernel_rfl
/-- a member's positions, by instruments. -/
def rd5l : List Value → Option (DataW Unit × List MemPlace)
  | [.int .i64 q, .int .u64 a, .int .u64 b, .int .u64 c, .int .u64 d] => some (.agg [.lit (.int .i64 q), .lit (.int .u64 a), .lit (.int .u64 b), .lit (.int .u64 c), .lit (.int .u64 d)], [])
  | _ => none
def rd5 : Value → Option (DataW Unit × List MemPlace)
  | .agg cs => rd5l cs.toList
  | _ => none
theorem rd5_inv {v : Value} {z : DataW Unit × List MemPlace} (h : rd5 v = some z) : ∃ q a b c d, v = .agg #[.int .i64 q, .int .u64 a, .int .u64 b, .int .u64 c, .int .u64 d] ∧ z = (.agg [.lit (.int .i64 q), .lit (.int .u64 a), .lit (.int .u64 b), .lit (.int .u64 c), .lit (.int .u64 d)], []) := by
  unfold rd5 at h
  split at h
  · rename_i cs
    obtain ⟨l⟩ := cs
    simp only at h
    unfold rd5l at h
    split at h
    · cases h; exact ⟨_, _, _, _, _, rfl, rfl⟩
    · cases h
  · cases h
def po0 : Po := ⟨0, 0, 0⟩
def kvP : Kv Int Po where
  kt := 22
  mt := 80
  et := 55
  R := rd5
  ok := fun k => (Lit.int .u32 k).wf = true
  kv := fun k => .int .u32 k
  kl := fun k => .int .u32 k
  val := fun p => .agg p.row
  el := fun p => .agg [.lit (.int .i64 p.qt), .lit (.int .u64 (hiW p.co)), .lit (.int .u64 (loW p.co)), .lit (.int .u64 (hiW p.ga)), .lit (.int .u64 (loW p.ga))]
  zero := po0
theorem okP : KvOk kvP where
  law := lawU
  und := Try.underlying80
  key := fun k h => keyOf_int_mk Try.underlying22 h
  inj := fun k k' _ _ h => by
    have h : Value.int .u32 k = .int .u32 k' := h
    injection h
  rd := fun v => rfl
  un := fun x v ps h => by
    obtain ⟨q, a, b, c, d, rfl, e⟩ := rd5_inv (show rd5 x = _ from h)
    have e := congrArg Prod.fst e
    have e : DataW.agg [.lit (.int .i64 v.qt), .lit (.int .u64 (hiW v.co)), .lit (.int .u64 (loW v.co)), .lit (.int .u64 (hiW v.ga)), .lit (.int .u64 (loW v.ga))] = (DataW.agg [.lit (.int .i64 q), .lit (.int .u64 a), .lit (.int .u64 b), .lit (.int .u64 c), .lit (.int .u64 d)] : DataW Unit) := e
    injection e with e
    simp only [List.cons.injEq, DataW.lit.injEq, Lit.int.injEq, true_and, and_true] at e
    show _ = Value.agg v.row
    unfold Po.row
    rw [e.1, e.2.1, e.2.2.1, e.2.2.2.1, e.2.2.2.2]
  z := fun w => by kernel_rfl
/-- members' maps. -/
def rdo : Value → Option (DataW Unit × List MemPlace)
  | .map none => some (.nil, [])
  | .map (some b) => some (.lit (.int .u64 b), [])
  | _ => none
def kvM : Kv Int (Option Nat) where
  kt := 22
  mt := 64
  et := 80
  R := rdo
  ok := fun k => (Lit.int .u32 k).wf = true
  kv := fun k => .int .u32 k
  kl := fun k => .int .u32 k
  val := fun o => .map o
  el := fun o => match o with | none => .nil | some b => .lit (.int .u64 b)
  zero := none
theorem okM : KvOk kvM where
  law := lawU
  und := Try.underlying64
  key := fun k h => keyOf_int_mk Try.underlying22 h
  inj := fun k k' _ _ h => by
    have h : Value.int .u32 k = .int .u32 k' := h
    injection h
  rd := fun v => by cases v <;> rfl
  un := fun x v ps h => by
    have h1 : rdo x = _ := h
    clear h
    cases x with
    | map o =>
      cases o with
      | none =>
        cases v with
        | none => rfl
        | some b => cases h1
      | some b =>
        cases v with
        | none => cases h1
        | some b' =>
          have h : some ((.lit (.int .u64 (b : Int)) : DataW Unit), ([] : List MemPlace)) = some (.lit (.int .u64 (b' : Int)), ps) := h1
          injection h with h
          have h := congrArg Prod.fst h
          injection h with h
          injection h with _ h
          have : b = b' := by omega
          subst this
          rfl
    | _ => cases h1
  z := fun w => by kernel_rfl
end Go.Proofs.Ytphhllppgelceaa.Ac
namespace Go.Proofs.Ytphhllppgelceaa.Ac
open Go.RowKit Go.Deep Go.Maps Go.Proofs.Ytphhllppgelceaa.MonM
set_option linter.unusedVariables false
set_option linter.unusedSimpArgs false
set_option maxRecDepth 100000
/-- an entry. -/
structure En where
  fm : Int
  fk : Int
  tm : Int
  tk : Int
  am : Int
def enr (x : En) : List Value := [.int .u32 x.fm, .int .i64 x.fk, .int .u32 x.tm, .int .i64 x.tk, .int .u64 (hiW x.am), .int .u64 (loW x.am)]
def enc (l : List En) : List Value := l.flatMap enr
theorem enc_snoc (l : List En) (x : En) : enc (l ++ [x]) = enc l ++ enr x := by simp [enc]
theorem enc_len (l : List En) : (enc l).length = l.length * 6 := by
  induction l with
  | nil => rfl
  | cons x l ih => simp only [enc, List.flatMap_cons, List.length_append, List.length_cons] at ih ⊢; rw [ih]; simp [enr]; omega
theorem enr_one (x : En) : ∀ u ∈ enr x, u.oneCell' = true := by
  intro u hu
  simp only [enr, List.mem_cons, List.not_mem_nil, or_false] at hu
  rcases hu with rfl | rfl | rfl | rfl | rfl | rfl <;> rfl
theorem enc_one (l : List En) : ∀ u ∈ enc l, u.oneCell' = true := by
  intro u hu
  obtain ⟨x, _, hx⟩ := List.mem_flatMap.1 hu
  exact enr_one x u hx
def U32 (k : Int) : Prop := (Lit.int .u32 k).wf = true
theorem u32_mk {k : Int} (h0 : 0 ≤ k) (h1 : k < 4294967296) : U32 k := by simp [U32, Lit.wf, IntKind.min, IntKind.max, IntKind.signed, IntKind.bits]; omega
/-- what a ledger keeps. -/
structure Ls where
  ma : Int
  ta : Int
  bb : Int
  f : Int × Int → Option Int
  g : Int → Int → Po
  es : List En
def lrow (s : Ls) (B P : Option Nat) (p : Option Addr) (c : Nat) : Array Value := #[.int .u32 s.ma, .int .u32 s.ta, .int .u32 s.bb, .map B, .slice p s.es.length c, .map P]
/-- the balances lie. -/
def Bl (w : World) (O : Nat → Prop) (k : Nat) (f : Int × Int → Option Int) : Option Nat → Prop
  | none => ∀ x, f x = none
  | some b => O b ∧ Mp kvB w b k f
/-- the positions lie. -/
structure Ps (w : World) (O : Nat → Prop) (k : Nat) (g : Int → Int → Po) (B : Option Nat) (q : Nat) (h : Int → Option (Option Nat)) (r : Int → Int → Option Po) : Prop where
  own : O q
  mp : Mp kvM w q k h
  no : ∀ m, U32 m → h m = none → ∀ i, U32 i → g m i = po0
  yes : ∀ m o, U32 m → h m = some o → ∃ M, o = some M ∧ O M ∧ M ≠ q ∧ Mp kvP w M k (r m) ∧ ∀ i, U32 i → g m i = (r m i).getD po0
  inj : ∀ m m' M, U32 m → U32 m' → h m = some (some M) → h m' = some (some M) → m = m'
  nb : ∀ b, B = some b → b ≠ q ∧ ∀ m, U32 m → h m ≠ some (some b)
def Pl (w : World) (O : Nat → Prop) (k : Nat) (g : Int → Int → Po) (B : Option Nat) : Option Nat → Prop
  | none => ∀ m i, g m i = po0
  | some q => ∃ h r, Ps w O k g B q h r
structure Tf (s : Ls) : Prop where
  m0 : 0 ≤ s.ma
  mb : s.ma ≤ s.bb
  t0 : 0 ≤ s.ta
  tb : s.ta ≤ s.bb
  b0 : 0 < s.bb
  b1 : s.bb < 4294967296
/-- a ledger lies in block G; O: all that is its own. -/
structure Lgx (w : World) (G : Nat) (O : Nat → Prop) (k : Nat) (s : Ls) (B P : Option Nat) (p : Option Addr) (c : Nat) : Prop where
  row : w.heap[G]? = some (.cells (lrow s B P p c) 66 (0, 0))
  oG : O G
  oE : ∀ b, (Value.slice p s.es.length c).ownBlock = some b → O b
  own : w.ownsRow 0 43 6 (.slice p s.es.length c) s.es.length (enc s.es)
  bal : Bl w O k s.f B
  pos : Pl w O k s.g B P
  both : B = none ↔ P = none
  amt : ∀ x v, s.f x = some v → Amt v
  gok : ∀ m i, PoOk (s.g m i) ∧ absI (s.g m i).qt ≤ 4294967295
  lt : ∀ b, O b → b < w.heap.size
  len : s.es.length ≤ k
  tf : Tf s
def Lg (w : World) (G : Nat) (O : Nat → Prop) (k : Nat) (s : Ls) : Prop := ∃ B P p c, Lgx w G O k s B P p c
theorem Bl.same {w w' : World} {O : Nat → Prop} {k : Nat} {f : Int × Int → Option Int} {B : Option Nat} (h : Bl w O k f B) (hs : ∀ b, O b → w'.heap[b]? = w.heap[b]?) : Bl w' O k f B := by
  cases B with
  | none => exact h
  | some b => exact ⟨h.1, h.2.same (hs b h.1)⟩
theorem Bl.mono {w : World} {O O' : Nat → Prop} {k k' : Nat} {f : Int × Int → Option Int} {B : Option Nat} (h : Bl w O k f B) (hO : ∀ b, O b → O' b) (hk : k ≤ k') : Bl w O' k' f B := by
  cases B with
  | none => exact h
  | some b => exact ⟨hO b h.1, h.2.mono hk⟩
theorem Ps.same {w w' : World} {O : Nat → Prop} {k : Nat} {g : Int → Int → Po} {B : Option Nat} {q : Nat} {h : Int → Option (Option Nat)} {r : Int → Int → Option Po} (H : Ps w O k g B q h r) (hs : ∀ b, O b → w'.heap[b]? = w.heap[b]?) : Ps w' O k g B q h r :=
  ⟨H.own, H.mp.same (hs _ H.own), H.no, fun m o hm ho => by
    obtain ⟨M, e, a, b, c, d⟩ := H.yes m o hm ho
    exact ⟨M, e, a, b, c.same (hs _ a), d⟩, H.inj, H.nb⟩
theorem Ps.mono {w : World} {O O' : Nat → Prop} {k k' : Nat} {g : Int → Int → Po} {B : Option Nat} {q : Nat} {h : Int → Option (Option Nat)} {r : Int → Int → Option Po} (H : Ps w O k g B q h r) (hO : ∀ b, O b → O' b) (hk : k ≤ k') : Ps w O' k' g B q h r :=
  ⟨hO _ H.own, H.mp.mono hk, H.no, fun m o hm ho => by
    obtain ⟨M, e, a, b, c, d⟩ := H.yes m o hm ho
    exact ⟨M, e, hO _ a, b, c.mono hk, d⟩, H.inj, H.nb⟩
theorem Pl.same {w w' : World} {O : Nat → Prop} {k : Nat} {g : Int → Int → Po} {B P : Option Nat} (h : Pl w O k g B P) (hs : ∀ b, O b → w'.heap[b]? = w.heap[b]?) : Pl w' O k g B P := by
  cases P with
  | none => exact h
  | some q => obtain ⟨a, b, c⟩ := h; exact ⟨a, b, c.same hs⟩
theorem Pl.mono {w : World} {O O' : Nat → Prop} {k k' : Nat} {g : Int → Int → Po} {B P : Option Nat} (h : Pl w O k g B P) (hO : ∀ b, O b → O' b) (hk : k ≤ k') : Pl w O' k' g B P := by
  cases P with
  | none => exact h
  | some q => obtain ⟨a, b, c⟩ := h; exact ⟨a, b, c.mono hO hk⟩
theorem Lgx.same {w w' : World} {G : Nat} {O : Nat → Prop} {k : Nat} {s : Ls} {B P : Option Nat} {p : Option Addr} {c : Nat} (h : Lgx w G O k s B P p c) (hs : ∀ b, O b → w'.heap[b]? = w.heap[b]?) (hz : w.heap.size ≤ w'.heap.size) : Lgx w' G O k s B P p c :=
  ⟨(hs G h.oG).trans h.row, h.oG, h.oE, own_same h.own (fun g hg => hs g (h.oE g hg)), h.bal.same hs, h.pos.same hs, h.both, h.amt, h.gok, fun b hb => Nat.lt_of_lt_of_le (h.lt b hb) hz, h.len, h.tf⟩
theorem Lgx.on {w w' : World} {G : Nat} {O : Nat → Prop} {k : Nat} {s : Ls} {B P : Option Nat} {p : Option Addr} {c : Nat} (h : Lgx w G O k s B P p c) (hb : Below w.heap.size w w') : Lgx w' G O k s B P p c := h.same (fun b ho => hb.block b (h.lt b ho)) hb.size
theorem Lgx.kept {w w' : World} {F : Nat → Prop} {G : Nat} {O : Nat → Prop} {k : Nat} {s : Ls} {B P : Option Nat} {p : Option Addr} {c : Nat} (h : Lgx w G O k s B P p c) (hk : Kp F w w') (hF : ∀ b, O b → ¬ F b) : Lgx w' G O k s B P p c := h.same (fun b ho => hk.obj b (h.lt b ho) (hF b ho)) hk.size
theorem Lgx.mono {w : World} {G : Nat} {O O' : Nat → Prop} {k k' : Nat} {s : Ls} {B P : Option Nat} {p : Option Addr} {c : Nat} (h : Lgx w G O k s B P p c) (hO : ∀ b, O b → O' b) (hl : ∀ b, O' b → b < w.heap.size) (hk : k ≤ k') : Lgx w G O' k' s B P p c :=
  ⟨h.row, hO _ h.oG, fun b hb => hO _ (h.oE b hb), h.own, h.bal.mono hO hk, h.pos.mono hO hk, h.both, h.amt, h.gok, hl, Nat.le_trans h.len hk, h.tf⟩
theorem Lg.on {w w' : World} {G : Nat} {O : Nat → Prop} {k : Nat} {s : Ls} (h : Lg w G O k s) (hb : Below w.heap.size w w') : Lg w' G O k s := by
  obtain ⟨B, P, p, c, h⟩ := h
  exact ⟨B, P, p, c, h.on hb⟩
theorem Lg.kept {w w' : World} {F : Nat → Prop} {G : Nat} {O : Nat → Prop} {k : Nat} {s : Ls} (h : Lg w G O k s) (hk : Kp F w w') (hF : ∀ b, O b → ¬ F b) : Lg w' G O k s := by
  obtain ⟨B, P, p, c, h⟩ := h
  exact ⟨B, P, p, c, h.kept hk hF⟩
theorem Lg.lt {w : World} {G : Nat} {O : Nat → Prop} {k : Nat} {s : Ls} (h : Lg w G O k s) : ∀ b, O b → b < w.heap.size := by
  obtain ⟨B, P, p, c, h⟩ := h
  exact h.lt
/-- what is its own now was so, or is new. -/
def Ex (w : World) (O O' : Nat → Prop) : Prop := ∀ b, O' b → O b ∨ w.heap.size ≤ b
theorem Ex.refl (w : World) (O : Nat → Prop) : Ex w O O := fun b h => .inl h
theorem Ex.trans {w w' : World} {O O' O'' : Nat → Prop} (h : Ex w O O') (k : Ex w' O' O'') (hz : w.heap.size ≤ w'.heap.size) : Ex w O O'' := fun b hb => by
  rcases k b hb with h1 | h1
  · exact h b h1
  · exact .inr (Nat.le_trans hz h1)
theorem Kp.seq {w w1 w2 : World} {O O1 : Nat → Prop} (h : Kp O w w1) (k : Kp O1 w1 w2) (e : Ex w O O1) : Kp O w w2 := h.trans k (fun g hg h1 => by
  rcases e g h1 with h2 | h2
  · exact h2
  · omega)
end Go.Proofs.Ytphhllppgelceaa.Ac
namespace Go.Proofs.Ytphhllppgelceaa.Ac
open List renaming getElem_toArray → lgA, getElem_cons_succ → lgB, getElem_cons_zero → lgC, setIfInBounds_toArray → lsA, set_cons_zero → lsB, set_cons_succ → lsC
open Go.RowKit Go.Deep Go.Maps Go.Proofs.Ytphhllppgelceaa.MonM
set_option linter.unusedVariables false
set_option linter.unusedSimpArgs false
set_option maxHeartbeats 8000000
set_option maxRecDepth 100000
attribute [local go_sem ↓] Go.wp_at_zero Go.wp_at_succ
theorem Bl.look {w : World} {O : Nat → Prop} {k : Nat} {f : Int × Int → Option Int} {B : Option Nat} (h : Bl w O k f B) (m t : Int) (hm : U32 m) (ht : (Lit.int .i64 t).wf = true) : (Instr.lookup 63 (.map B) (.agg #[.int .u32 m, .int .i64 t]) true).run Try.prog w = .ok (.tuple #[mv ((f (m, t)).getD 0), .bool (f (m, t)).isSome]) w := by
  cases B with
  | none =>
    rw [show f (m, t) = none from h _]
    exact look_none okB w (m, t) ⟨hm, ht⟩
  | some b => exact h.2.look okB (m, t) ⟨hm, ht⟩
theorem Bl.get {w : World} {O : Nat → Prop} {k : Nat} {f : Int × Int → Option Int} {B : Option Nat} (h : Bl w O k f B) (m t : Int) (hm : U32 m) (ht : (Lit.int .i64 t).wf = true) : (Instr.lookup 63 (.map B) (.agg #[.int .u32 m, .int .i64 t]) false).run Try.prog w = .ok (mv ((f (m, t)).getD 0)) w := by
  cases B with
  | none =>
    rw [show f (m, t) = none from h _]
    exact get_none okB w (m, t) ⟨hm, ht⟩
  | some b => exact h.2.get okB (m, t) ⟨hm, ht⟩
theorem Pl.look {w : World} {O : Nat → Prop} {k : Nat} {g : Int → Int → Po} {B P : Option Nat} (h : Pl w O k g B P) (m : Int) (hm : U32 m) : ∃ o, (Instr.lookup 64 (.map P) (.int .u32 m) false).run Try.prog w = .ok (.map o) w ∧ ∀ i, U32 i → (Instr.lookup 80 (.map o) (.int .u32 i) false).run Try.prog w = .ok (.agg (g m i).row) w := by
  cases P with
  | none =>
    refine ⟨none, get_none okM w m hm, fun i hi => ?_⟩
    rw [show g m i = po0 from h _ _]
    exact get_none okP w i hi
  | some q =>
    obtain ⟨a, r, H⟩ := h
    have h1 := H.mp.get okM m hm
    cases e : a m with
    | none =>
      rw [e] at h1
      refine ⟨none, h1, fun i hi => ?_⟩
      rw [H.no m hm e i hi]
      exact get_none okP w i hi
    | some o =>
      rw [e] at h1
      obtain ⟨M, rfl, _, _, x, y⟩ := H.yes m o hm e
      refine ⟨some M, h1, fun i hi => ?_⟩
      rw [y i hi]
      exact x.get okP i hi
theorem wf1 : (Lit.int .i64 1).wf = true := by decide
theorem infoPo5 : (Try.prog.info? 55).map (·.size) = some 5 := by kernel_rfl
theorem isOpen_any {w : World} {G : Nat} {O : Nat → Prop} {k : Nat} {s : Ls} (h : Lg w G O k s) (m : Int) (hm : U32 m) :
    Calls Try.prog 35 #[.pointer (some ⟨G, 0, none⟩), .int .u32 m] w fun e w' => e = .returned (.bool (s.f (m, 1)).isSome) ∧ Below w.heap.size w w' := by
  obtain ⟨B, P, p, c, h⟩ := h
  have HG := hid h.row
  unfold lrow at HG
  have LK := hid (fun U (hU : Below w.heap.size w U) => (h.on hU).bal.look m 1 hm wf1)
  have CC := hid (show ∀ U, Calls Try.prog 32 #[.int .u32 m] U fun e w' => e = .returned (.agg #[.int .u32 m, .int .i64 1]) ∧ Hid (Below U.heap.size U w') from fun U => cash_any m U)
  obtain ⟨v, hv⟩ : ∃ v, (s.f (m, 1)).getD 0 = v := ⟨_, rfl⟩
  obtain ⟨b, hb⟩ : ∃ b, (s.f (m, 1)).isSome = b := ⟨_, rfl⟩
  rw [hv, hb] at LK
  rw [hb]
  unfold mv at LK
  clear h hv hb hm
  go_enter Try.func35, Try.ntmps35
  go_upto_region 1 with fail
  refine reg_cut (X := Nat) (fun a t => ((((((((((((a.put (some 8) (.pointer (some ⟨G, 0, none⟩))).put (some 9) (.pointer (some ⟨G, 0, none⟩))).put (some 10) (.pointer (some ⟨G, 3, none⟩))).put (some 11) (.map B)).put (some 12) (.int .u32 m)).put (some 13) (.agg #[.int .u32 m, .int .i64 1])).put (some 14) (.tuple #[.agg #[.int .u64 (hiW v), .int .u64 (loW v)], .bool b])).put (some 7) (.tuple #[.agg #[.int .u64 (hiW v), .int .u64 (loW v)], .bool b])).put (some 15) (.agg #[.int .u64 (hiW v), .int .u64 (loW v)])).put (some 16) (.bool b)).put (some 5) (.pointer (some ⟨t, 0, none⟩))).put (some 6) (.bool b))) (fun t V => Hid (Below w.heap.size w V)) ?_ ?_
  · obtain ⟨V1, hV1⟩ : ∃ U, w.drew = U := ⟨_, rfl⟩
    have BV1 := hid (show Below w.heap.size w V1 from by rw [← hV1]; exact bdrew1 _)
    have r2 := hid (row_on HG.out BV1.out)
    refine wp_region_held_drew (S := (fun U => U.cell? ⟨G, 3, none⟩ = some (.map B) ∧ (Instr.lookup 63 (.map B) (.agg #[.int .u32 m, .int .i64 1]) true).run Try.prog U = .ok (.tuple #[.agg #[.int .u64 (hiW v), .int .u64 (loW v)], .bool b]) U)) (by kernel_rfl) ?_ (fun hHeld => ?_)
    · (try dsimp only); rw [hV1]; exact ⟨row_cell r2.out 3, LK.out _ BV1.out⟩
    rw [hV1] at hHeld ⊢
    clear hV1
    refine' wpAnyH_take (i := 0) rfl (by kernel_rfl) (by kernel_rfl) (by kernel_rfl) (fun _ _ _ h => h) (Or.inl ⟨by kernel_rfl, ?_⟩) (by assumption) ?_
    rotate_left
    · (intro w hSw; (try dsimp only at hSw); go_simp; try (with_reducible rfl))
    try simp only [lgA, lgB, lgC, Act.put, lsA, lsB, lsC]
    refine' wpAnyH_take (i := 1) rfl (by kernel_rfl) (by kernel_rfl) (by kernel_rfl) (fun _ _ _ h => h) (Or.inl ⟨by kernel_rfl, ?_⟩) (by assumption) ?_
    rotate_left
    · (intro w hSw; (try dsimp only at hSw); go_simp; try (with_reducible rfl))
    try simp only [lgA, lgB, lgC, Act.put, lsA, lsB, lsC]
    refine' wpAnyH_take (i := 2) rfl (by kernel_rfl) (by kernel_rfl) (by kernel_rfl) (fun _ _ _ h => h) (Or.inl ⟨by kernel_rfl, ?_⟩) (by assumption) ?_
    rotate_left
    · (intro w hSw; (try dsimp only at hSw); go_simp; try (with_reducible rfl))
    try simp only [lgA, lgB, lgC, Act.put, lsA, lsB, lsC]
    refine' wpAnyH_take (i := 3) rfl (by kernel_rfl) (by kernel_rfl) (by kernel_rfl) (fun _ _ _ h => h) (Or.inl ⟨by kernel_rfl, ?_⟩) (by assumption) ?_
    rotate_left
    · (intro w hSw; (try dsimp only at hSw); go_simp; try (with_reducible rfl))
    try simp only [lgA, lgB, lgC, Act.put, lsA, lsB, lsC]
    refine' wpAnyH_take (i := 4) rfl (by kernel_rfl) (by kernel_rfl) (by kernel_rfl) (fun _ _ _ h => h) (Or.inl ⟨by kernel_rfl, ?_⟩) (by assumption) ?_
    rotate_left
    · (intro w hSw; (try dsimp only at hSw); go_simp; try (with_reducible rfl))
    try simp only [lgA, lgB, lgC, Act.put, lsA, lsB, lsC]
    refine wpAnyH_ready (rs := [5, 10]) (by kernel_rfl) (by simp) ?_
    refine (AllReadyH.cons rfl (fun K hK => ?_) (AllReadyH.cons rfl (fun K hK => ?_) AllReadyH.nil))
    · go_simp
      go_at_call 32
      with_reducible refine (CC.out V1).mono ?_
      rintro e X3 ⟨rfl, DbX3⟩
      have r4 := hid (row_on r2.out DbX3.out)
      have DX3 := hid (btr BV1.out DbX3.out)
      have UX3 := hid (BV1.out.size)
      (try go_wp2_with fail)
      refine hK.out _ _ ?_ (fun hHeld => ?_)
      · (try dsimp only); exact ⟨row_cell r4.out 3, LK.out _ DX3.out⟩
      clear hK K
      try simp only [lgA, lgB, lgC, Act.put, lsA, lsB, lsC]
      refine' wpAnyH_take (i := 6) rfl (by kernel_rfl) (by kernel_rfl) (by kernel_rfl) (fun _ _ _ h => h) (Or.inl ⟨by kernel_rfl, ?_⟩) (by assumption) ?_
      rotate_left
      · (intro w hSw; (try dsimp only at hSw); go_simp; try (with_reducible rfl))
      try simp only [lgA, lgB, lgC, Act.put, lsA, lsB, lsC]
      refine' wpAnyH_take (i := 7) rfl (by kernel_rfl) (by kernel_rfl) (by kernel_rfl) (fun _ _ _ h => h) (Or.inl ⟨by kernel_rfl, ?_⟩) (by assumption) ?_
      rotate_left
      · (intro w hSw; (try dsimp only at hSw); go_simp; try (with_reducible rfl))
      try simp only [lgA, lgB, lgC, Act.put, lsA, lsB, lsC]
      refine' wpAnyH_take (i := 8) rfl (by kernel_rfl) (by kernel_rfl) (by kernel_rfl) (fun _ _ _ h => h) (Or.inl ⟨by kernel_rfl, ?_⟩) (by assumption) ?_
      rotate_left
      · (intro w hSw; (try dsimp only at hSw); go_simp; try (with_reducible rfl))
      try simp only [lgA, lgB, lgC, Act.put, lsA, lsB, lsC]
      refine' wpAnyH_take (i := 9) rfl (by kernel_rfl) (by kernel_rfl) (by kernel_rfl) (fun _ _ _ h => h) (Or.inl ⟨by kernel_rfl, ?_⟩) (by assumption) ?_
      rotate_left
      · (intro w hSw; (try dsimp only at hSw); go_simp; try (with_reducible rfl))
      try simp only [lgA, lgB, lgC, Act.put, lsA, lsB, lsC]
      refine wpAnyH_ready (rs := [10]) (by kernel_rfl) (by simp) ?_
      refine (AllReadyH.cons rfl (fun K hK => ?_) AllReadyH.nil)
      go_simp
      obtain ⟨X5, hX5⟩ : ∃ X, X3.alloc (.cells #[.int .u64 0, .int .u64 0] 40) = X := ⟨_, rfl⟩
      have bX5 : Below X3.heap.size X3 X5 := by rw [← hX5]; exact ball _ _
      have r7 := hid (row_on r4.out bX5)
      have DX5 := hid (btr DX3.out bX5)
      have zX5 : X5.heap[X3.heap.size]? = some (.cells #[.int .u64 0, .int .u64 0] 40 (0, 0)) := by rw [← hX5]; exact World.alloc_heap_new _ _
      have yg6 := DX3.out.size
      obtain ⟨g6, hg6⟩ : ∃ g, X3.heap.size = g := ⟨_, rfl⟩
      have n8 : g6 ≠ G := by have := row_lt r4.out; omega
      rw [hg6] at zX5 yg6
      have ZX5 := hid zX5
      rw [hX5, hg6]
      clear hX5 hg6 zX5 bX5
      refine hK.out _ _ ?_ (fun hHeld => ?_)
      · (try dsimp only); exact ⟨row_cell r7.out 3, LK.out _ DX5.out⟩
      clear hK K
      try simp only [lgA, lgB, lgC, Act.put, lsA, lsB, lsC]
      refine wpAnyH_ready (rs := [11]) (by kernel_rfl) (by simp) ?_
      refine (AllReadyH.cons rfl (fun K hK => ?_) AllReadyH.nil)
      refine step_store_row (by rfl) 40 (.tmp 5) (.tmp 15) (by rfl) g6 #[.int .u64 (hiW v), .int .u64 (loW v)] (by rfl) (by rfl) 40 _ ZX5.out infoM (by rfl) (by simp [Value.oneCell']) ?_
      obtain ⟨Y9, hY9⟩ : ∃ Y, X5.setRow g6 #[.int .u64 (hiW v), .int .u64 (loW v)] = Y := ⟨_, rfl⟩
      have KY9 := hid (show Kp (fun j => j = g6) X5 Y9 from by rw [← hY9]; exact setRow_kp _ _ _)
      have AY9 := hid (show Y9.heap[g6]? = some (.cells #[.int .u64 (hiW v), .int .u64 (loW v)] 40 (0, 0)) from by rw [← hY9]; exact setRow_heap X5 g6 _ _ 40 (0, 0) ZX5.out)
      have DY9 := hid (show Below w.heap.size w Y9 from by rw [← hY9]; exact setRow_below DX5.out yg6)
      have r10 := hid (KY9.out.row r7.out (fun e => n8.symm e))
      rw [hY9]
      refine hK.out _ _ ?_ (fun hHeld => ?_)
      · (try dsimp only); exact ⟨row_cell r10.out 3, LK.out _ DY9.out⟩
      clear hK K hY9
      try simp only [lgA, lgB, lgC, Act.put, lsA, lsB, lsC]
      refine' wpAnyH_take (i := 12) rfl (by kernel_rfl) (by kernel_rfl) (by kernel_rfl) (fun _ _ _ h => h) (Or.inl ⟨by kernel_rfl, ?_⟩) (by assumption) ?_
      rotate_left
      · (intro w hSw; (try dsimp only at hSw); go_simp; try (with_reducible rfl))
      try simp only [lgA, lgB, lgC, Act.put, lsA, lsB, lsC]
      refine wpAnyH_done (by kernel_rfl) ?_ _
      exact ⟨g6, by kernel_rfl, DY9⟩
    · go_simp
      obtain ⟨X11, hX11⟩ : ∃ X, V1.alloc (.cells #[.int .u64 0, .int .u64 0] 40) = X := ⟨_, rfl⟩
      have bX11 : Below V1.heap.size V1 X11 := by rw [← hX11]; exact ball _ _
      have r13 := hid (row_on r2.out bX11)
      have DX11 := hid (btr BV1.out bX11)
      have zX11 : X11.heap[V1.heap.size]? = some (.cells #[.int .u64 0, .int .u64 0] 40 (0, 0)) := by rw [← hX11]; exact World.alloc_heap_new _ _
      have yg12 := BV1.out.size
      obtain ⟨g12, hg12⟩ : ∃ g, V1.heap.size = g := ⟨_, rfl⟩
      have n14 : g12 ≠ G := by have := row_lt r2.out; omega
      rw [hg12] at zX11 yg12
      have ZX11 := hid zX11
      rw [hX11, hg12]
      clear hX11 hg12 zX11 bX11
      refine hK.out _ _ ?_ (fun hHeld => ?_)
      · (try dsimp only); exact ⟨row_cell r13.out 3, LK.out _ DX11.out⟩
      clear hK K
      try simp only [lgA, lgB, lgC, Act.put, lsA, lsB, lsC]
      refine wpAnyH_ready (rs := [5]) (by kernel_rfl) (by simp) ?_
      refine (AllReadyH.cons rfl (fun K hK => ?_) AllReadyH.nil)
      go_simp
      go_at_call 32
      with_reducible refine (CC.out X11).mono ?_
      rintro e X15 ⟨rfl, DbX15⟩
      have r16 := hid (row_on r13.out DbX15.out)
      have r17 := hid (row_on ZX11.out DbX15.out)
      have DX15 := hid (btr DX11.out DbX15.out)
      have UX15 := hid (DX11.out.size)
      (try go_wp2_with fail)
      refine hK.out _ _ ?_ (fun hHeld => ?_)
      · (try dsimp only); exact ⟨row_cell r16.out 3, LK.out _ DX15.out⟩
      clear hK K
      try simp only [lgA, lgB, lgC, Act.put, lsA, lsB, lsC]
      refine' wpAnyH_take (i := 6) rfl (by kernel_rfl) (by kernel_rfl) (by kernel_rfl) (fun _ _ _ h => h) (Or.inl ⟨by kernel_rfl, ?_⟩) (by assumption) ?_
      rotate_left
      · (intro w hSw; (try dsimp only at hSw); go_simp; try (with_reducible rfl))
      try simp only [lgA, lgB, lgC, Act.put, lsA, lsB, lsC]
      refine' wpAnyH_take (i := 7) rfl (by kernel_rfl) (by kernel_rfl) (by kernel_rfl) (fun _ _ _ h => h) (Or.inl ⟨by kernel_rfl, ?_⟩) (by assumption) ?_
      rotate_left
      · (intro w hSw; (try dsimp only at hSw); go_simp; try (with_reducible rfl))
      try simp only [lgA, lgB, lgC, Act.put, lsA, lsB, lsC]
      refine' wpAnyH_take (i := 8) rfl (by kernel_rfl) (by kernel_rfl) (by kernel_rfl) (fun _ _ _ h => h) (Or.inl ⟨by kernel_rfl, ?_⟩) (by assumption) ?_
      rotate_left
      · (intro w hSw; (try dsimp only at hSw); go_simp; try (with_reducible rfl))
      try simp only [lgA, lgB, lgC, Act.put, lsA, lsB, lsC]
      refine' wpAnyH_take (i := 9) rfl (by kernel_rfl) (by kernel_rfl) (by kernel_rfl) (fun _ _ _ h => h) (Or.inl ⟨by kernel_rfl, ?_⟩) (by assumption) ?_
      rotate_left
      · (intro w hSw; (try dsimp only at hSw); go_simp; try (with_reducible rfl))
      try simp only [lgA, lgB, lgC, Act.put, lsA, lsB, lsC]
      refine wpAnyH_ready (rs := [11]) (by kernel_rfl) (by simp) ?_
      refine (AllReadyH.cons rfl (fun K hK => ?_) AllReadyH.nil)
      refine step_store_row (by rfl) 40 (.tmp 5) (.tmp 15) (by rfl) g12 #[.int .u64 (hiW v), .int .u64 (loW v)] (by rfl) (by rfl) 40 _ r17.out infoM (by rfl) (by simp [Value.oneCell']) ?_
      obtain ⟨Y18, hY18⟩ : ∃ Y, X15.setRow g12 #[.int .u64 (hiW v), .int .u64 (loW v)] = Y := ⟨_, rfl⟩
      have KY18 := hid (show Kp (fun j => j = g12) X15 Y18 from by rw [← hY18]; exact setRow_kp _ _ _)
      have AY18 := hid (show Y18.heap[g12]? = some (.cells #[.int .u64 (hiW v), .int .u64 (loW v)] 40 (0, 0)) from by rw [← hY18]; exact setRow_heap X15 g12 _ _ 40 (0, 0) r17.out)
      have DY18 := hid (show Below w.heap.size w Y18 from by rw [← hY18]; exact setRow_below DX15.out yg12)
      have r19 := hid (KY18.out.row r16.out (fun e => n14.symm e))
      rw [hY18]
      refine hK.out _ _ ?_ (fun hHeld => ?_)
      · (try dsimp only); exact ⟨row_cell r19.out 3, LK.out _ DY18.out⟩
      clear hK K hY18
      try simp only [lgA, lgB, lgC, Act.put, lsA, lsB, lsC]
      refine' wpAnyH_take (i := 12) rfl (by kernel_rfl) (by kernel_rfl) (by kernel_rfl) (fun _ _ _ h => h) (Or.inl ⟨by kernel_rfl, ?_⟩) (by assumption) ?_
      rotate_left
      · (intro w hSw; (try dsimp only at hSw); go_simp; try (with_reducible rfl))
      try simp only [lgA, lgB, lgC, Act.put, lsA, lsB, lsC]
      refine wpAnyH_done (by kernel_rfl) ?_ _
      exact ⟨g12, by kernel_rfl, DY18⟩
  rintro t V B1
  try simp only [lgA, lgB, lgC, Act.put, lsA, lsB, lsC]
  go_wp2
  go_ret
  exact ⟨rfl, B1.out⟩
theorem position_any {w : World} {G : Nat} {O : Nat → Prop} {k : Nat} {s : Ls} (h : Lg w G O k s) (m i : Int) (hm : U32 m) (hi : U32 i) :
    Calls Try.prog 18 #[.pointer (some ⟨G, 0, none⟩), .int .u32 m, .int .u32 i] w fun e w' => e = .returned (.agg (s.g m i).row) ∧ Below w.heap.size w w' := by
  obtain ⟨B, P, p, c, h⟩ := h
  obtain ⟨W, hW⟩ : ∃ W, w.alloc (.cells #[.int .i64 0, .int .u64 0, .int .u64 0, .int .u64 0, .int .u64 0] 55) = W := ⟨_, rfl⟩
  have HZ := hid (show W.heap[w.heap.size]? = some (.cells #[.int .i64 0, .int .u64 0, .int .u64 0, .int .u64 0, .int .u64 0] 55 (0, 0)) from by rw [← hW]; exact World.alloc_heap_new _ _)
  have HB := hid (show Below w.heap.size w W from by rw [← hW]; exact ball _ _)
  have h' := h.on HB.out
  obtain ⟨o, l1, l2⟩ := h'.pos.look m hm
  have l2 := l2 i hi
  have a0 := row_cell h'.row 5
  unfold lrow at a0
  simp only [List.getElem?_toArray, List.getElem?_cons_succ, List.getElem?_cons_zero] at a0
  obtain ⟨x, hx⟩ : ∃ x, s.g m i = x := ⟨_, rfl⟩
  rw [hx] at l2 ⊢
  unfold Po.row at l2 ⊢
  have HW := hid hW
  clear hW hx h h' hm hi
  go_enter Try.func18, Try.ntmps18
  go_upto_region 1 with fail
  rw [HW.out]
  go_wp2_with (refine wpList_store_row (by rfl) 55 (.tmp 6) (.tmp 14) (by rfl) w.heap.size #[.int .i64 x.qt, .int .u64 (hiW x.co), .int .u64 (loW x.co), .int .u64 (hiW x.ga), .int .u64 (loW x.ga)] (by rfl) (by rfl) 55 _ HZ.out infoPo5 (by rfl) (by simp [Value.oneCell']) ?_)
  refine bodyPost_ret (results_cell_row (fn := Try.f18) Try.results18 _ _ w.heap.size 55 #[.int .i64 x.qt, .int .u64 (hiW x.co), .int .u64 (loW x.co), .int .u64 (hiW x.ga), .int .u64 (loW x.ga)] (0, 0) _ (by rfl) (setRow_heap _ _ _ _ 55 (0, 0) HZ.out) Try.underlying55 rfl infoPo5) rfl ⟨rfl, ?_⟩
  exact setRow_below HB.out (Nat.le_refl _)
end Go.Proofs.Ytphhllppgelceaa.Ac
namespace Go.Proofs.Ytphhllppgelceaa.Ac
open List renaming getElem_toArray → lgA, getElem_cons_succ → lgB, getElem_cons_zero → lgC, setIfInBounds_toArray → lsA, set_cons_zero → lsB, set_cons_succ → lsC
open Go.RowKit Go.Deep Go.Maps Go.Proofs.Ytphhllppgelceaa.MonM
set_option linter.unusedVariables false
set_option linter.unusedSimpArgs false
set_option maxHeartbeats 8000000
set_option maxRecDepth 100000
attribute [local go_sem ↓] Go.wp_at_zero Go.wp_at_succ
theorem grown_refl (w : World) (r : Option Nat) : w.grownBy w r := ⟨rfl, rfl, rfl, Nat.le_refl _, fun _ _ _ => rfl⟩
theorem own_form {base : Nat} {w : World} {e : TypeId} {size n : Nat} {v : Value} {xs : List Value} (h : w.ownsRow base e size v n xs) : ∃ p c, v = .slice p n c := by
  obtain ⟨_, ⟨rfl, rfl⟩ | ⟨g, c, cur, rfl, _⟩⟩ := h
  · exact ⟨none, 0, rfl⟩
  · exact ⟨_, _, rfl⟩
theorem own_nil (w : World) (base : Nat) (e : TypeId) (size : Nat) : w.ownsRow base e size (.slice none 0 0) 0 [] := ⟨by simp, .inl ⟨rfl, rfl⟩⟩
theorem own_cells {base : Nat} {w : World} {e : TypeId} {size n c : Nat} {ad : Addr} {xs : List Value} (h : w.ownsRow base e size (.slice (some ad) n c) n xs) : xs.length = n * size ∧ ∀ j u, xs[j]? = some u → w.cell? (ad.add j) = some u := by
  obtain ⟨h1, ⟨e', e2⟩ | ⟨g, c', cur, e', r1, r2, r3, r4, r5, r6⟩⟩ := h
  · cases (Value.slice.inj e').1
  · obtain ⟨e3, _, rfl⟩ := Value.slice.inj e'
    injection e3 with e3
    subst e3
    refine ⟨h1, fun j u hj => ?_⟩
    rw [Addr.add_lit, Nat.zero_add, row_cell r2]
    have hl := (List.getElem?_eq_some_iff.1 hj).1
    have := congrArg (fun z => z[j]?) r6
    simp only [List.getElem?_take, show j < n * size by omega, if_true, Array.getElem?_toList] at this
    rw [this, hj]
theorem own_cap {base : Nat} {w : World} {e : TypeId} {size n c : Nat} {p : Option Addr} {xs : List Value} (h : w.ownsRow base e size (.slice p n c) n xs) : n ≤ c ∧ c ≤ maxLen ∧ (p = none → n = 0 ∧ c = 0) := by
  obtain ⟨h1, ⟨e', e2⟩ | ⟨g, c', cur, e', r1, r2, r3, r4, r5, r6⟩⟩ := h
  · obtain ⟨_, h2, rfl⟩ := Value.slice.inj e'
    exact ⟨by omega, Nat.zero_le _, fun _ => ⟨by omega, rfl⟩⟩
  · obtain ⟨rfl, _, rfl⟩ := Value.slice.inj e'
    exact ⟨r3, r4, fun h => by cases h⟩
theorem info_parts {e : TypeId} {z : Value} {size bytes : Nat} (h : (Try.prog.info? e).map (fun i => (i.zero, i.size, i.bytes)) = some (some z, size, bytes)) : ∃ i0, Try.prog.info? e = some i0 ∧ i0.zero = some z ∧ i0.size = size ∧ i0.bytes = bytes := by
  cases hq : Try.prog.info? e with
  | none => rw [hq] at h; cases h
  | some i =>
    rw [hq] at h
    simp only [Option.map_some, Option.some.injEq, Prod.mk.injEq] at h
    exact ⟨i, rfl, h.1, h.2.1, h.2.2⟩
theorem infoE6 : (Try.prog.info? 43).map (fun i => (i.zero, i.size, i.bytes)) = some (some (.agg #[.int .u32 0, .int .i64 0, .int .u32 0, .int .i64 0, .int .u64 0, .int .u64 0]), 6, 48) := by kernel_rfl
/-- rows that may be read are put behind a slice of one's own. -/
theorem wpList_app_rd {w : World} {ops : Array Oper} {rest : List Oper} {oo : Oper} {a : Act} {Q : Exit → Act → World → Prop} (hgd : oo.guard = none) (s x : Operand) (t e : TypeId) (z : Value) (size bytes : Nat)
    (ho : oo.op = .call { callee := .builtin .append, args := #[s, x], argTypes := #[t, t] }) (ht : Try.prog.underlying t = some (.slice e)) (hinf : (Try.prog.info? e).map (fun i => (i.zero, i.size, i.bytes)) = some (some z, size, bytes)) (hzs : z.cells.size = size) (hsz : 0 < size)
    (base : Nat) (v : Value) (n : Nat) (ys : List Value) (hs : a.eval s = v) (hown : w.ownsRow base e size v n ys)
    (q : Option Addr) (c m : Nat) (xs : List Value) (hx : a.eval x = .slice q m c) (hq : q = none → m = 0 ∧ c = 0) (hln : xs.length = m * size) (hrd : ∀ ad, q = some ad → ∀ j u, xs[j]? = some u → w.cell? (ad.add j) = some u) (h1 : ∀ u ∈ xs, u.oneCell' = true)
    (h63 : n + m ≤ maxLen) (hbytes : (n + m) * bytes ≤ 140737488355328) (hbase : base ≤ w.heap.size)
    (h : ∀ v' w', w'.ownsRow base e size v' (n + m) (ys ++ xs) → w.grownBy w' v.ownBlock → wpList Try.prog ops Q rest (a.put oo.dst v') w') : wpList Try.prog ops Q (oo :: rest) a w := by
  obtain ⟨i0, hi, hz0, hz1, hz2⟩ := info_parts hinf
  cases q with
  | none =>
    obtain ⟨rfl, rfl⟩ := hq rfl
    obtain rfl : xs = [] := List.length_eq_zero_iff.1 (by simpa using hln)
    exact wpList_append_own_none hgd s x t ho base e i0 size ht hi v n ys hs hown hx (h v w (by simpa using hown) (grown_refl _ _))
  | some ad =>
    exact wpList_append_own _ hgd s x t ho base e i0 _ size bytes ht hi hz0 hz1 hz2 hzs hsz v n ys hs hown ad m c xs hx hln (hrd ad rfl) h1 h63 hbytes hbase (fun v' w' h2 h3 _ => h v' w' h2 h3)
theorem below_grown {w W U : World} {v : Value} {e : TypeId} {size n : Nat} {xs : List Value} (hb : Below w.heap.size w W) (hv : W.ownsRow w.heap.size e size v n xs) (hg : W.grownBy U v.ownBlock) : Below w.heap.size w U :=
  hb.grown hg hb.size (fun j hj => by
    obtain ⟨_, ⟨e, _⟩ | ⟨g, c, cur, e, r1, _⟩⟩ := hv
    · rw [e] at hj; cases hj
    · rw [e] at hj; cases hj; exact r1)
theorem entries_any {w : World} {G : Nat} {O : Nat → Prop} {k : Nat} {s : Ls} (h : Lg w G O k s) (hk : k ≤ 1000000000000) :
    Calls Try.prog 10 #[.pointer (some ⟨G, 0, none⟩)] w fun e w' => ∃ p' c', e = .returned (.slice p' s.es.length c') ∧ Below w.heap.size w w' := by
  obtain ⟨B, P, p, c, h⟩ := h
  have hl := h.len
  have a0 := row_cell h.row 4
  unfold lrow at a0
  simp only [List.getElem?_toArray, List.getElem?_cons_succ, List.getElem?_cons_zero] at a0
  obtain ⟨hc1, hc2, hc3⟩ := own_cap h.own
  have HX := hid (enc_len s.es)
  have HL := hid (show ∀ ad, p = some ad → ∀ j u, (enc s.es)[j]? = some u → w.cell? (ad.add j) = some u from fun ad e => by
    have ho := h.own
    subst e
    exact (own_cells ho).2)
  have HO := hid (own_nil w w.heap.size 43 6)
  obtain ⟨n, hn⟩ : ∃ n, s.es.length = n := ⟨_, rfl⟩
  rw [hn] at a0 hl HX hc1 hc3 ⊢
  have HQ := hid hc3
  clear hc3 hn h
  have hmx : n ≤ maxLen := by omega
  go_enter Try.func10, Try.ntmps10
  go_wp2_with (at_builtin; refine wpList_app_rd (by rfl) (.const (.slice none 0 0)) (.tmp 6) 33 43 _ 6 48 (by rfl) Try.underlying33 infoE6 rfl (by decide) w.heap.size _ 0 [] (by rfl) HO.out p c n (enc s.es) (by rfl) HQ.out HX.out HL.out (enc_one s.es) (by omega) (by omega) (Nat.le_refl _) ?_; intro v' w' hown hgrow; obtain ⟨p1, q1, rfl⟩ := own_form hown; have HO1 := hid hown; have HG1 := hid hgrow; clear hown hgrow)
  go_ret
  exact ⟨p1, q1, by simp, below_grown (Below.refl _ _) HO.out HG1.out⟩
theorem balance_any {w : World} {G : Nat} {O : Nat → Prop} {k : Nat} {s : Ls} (h : Lg w G O k s) (m t : Int) (hm : U32 m) (ht : (Lit.int .i64 t).wf = true) :
    Calls Try.prog 14 #[.pointer (some ⟨G, 0, none⟩), .agg #[.int .u32 m, .int .i64 t]] w fun e w' => e = .returned (mv ((s.f (m, t)).getD 0)) ∧ Below w.heap.size w w' := by
  obtain ⟨B, P, p, c, h⟩ := h
  obtain ⟨Wa, hWa⟩ : ∃ W, w.alloc (.cells #[.int .u32 m, .int .i64 t] 36) = W := ⟨_, rfl⟩
  obtain ⟨Wb, hWb⟩ : ∃ W, Wa.alloc (.cells #[.int .u64 0, .int .u64 0] 40) = W := ⟨_, rfl⟩
  obtain ⟨R, hR⟩ : ∃ R, w.heap.size = R := ⟨_, rfl⟩
  have sa : Wa.heap.size = R + 1 := by rw [← hWa, ← hR]; exact Array.size_push _
  have ba : Below w.heap.size w Wa := by rw [← hWa]; exact ball _ _
  have bb : Below Wa.heap.size Wa Wb := by rw [← hWb]; exact ball _ _
  have HK := hid (show Wb.heap[R]? = some (.cells #[.int .u32 m, .int .i64 t] 36 (0, 0)) from row_on (by rw [← hWa, ← hR]; exact World.alloc_heap_new _ _) bb)
  have HX := hid (show Wb.heap[R + 1]? = some (.cells #[.int .u64 0, .int .u64 0] 40 (0, 0)) from by rw [← hWb, ← sa]; exact World.alloc_heap_new _ _)
  have HBB := hid (btr ba bb)
  have h' := h.on HBB.out
  have HG := hid h'.row
  unfold lrow at HG
  have LK := hid (fun U (hU : Below Wb.heap.size Wb U) => (h'.on hU).bal.get m t hm ht)
  have yS : w.heap.size ≤ R + 1 := by omega
  have gR : G < R := by rw [← hR]; exact row_lt h.row
  have n1 : G ≠ R + 1 := by omega
  have n2 : R ≠ R + 1 := by omega
  obtain ⟨v, hv⟩ : ∃ v, (s.f (m, t)).getD 0 = v := ⟨_, rfl⟩
  rw [hv] at LK ⊢
  unfold mv at LK ⊢
  have HWa := hid hWa
  have HWb := hid hWb
  have HR := hid hR
  have HH := hid h'
  clear h hv hm ht hWa hWb hR sa ba bb h'
  go_enter Try.func14, Try.ntmps14
  go_upto_region 1 with fail
  rw [HWa.out, HWb.out, HR.out]
  clear HWa HWb
  obtain ⟨V1, hV1⟩ : ∃ U, Wb.drew = U := ⟨_, rfl⟩
  have BV1 := hid (show Below Wb.heap.size Wb V1 from by rw [← hV1]; exact bdrew1 _)
  have r2 := hid (row_on HG.out BV1.out)
  have r3 := hid (row_on HK.out BV1.out)
  have r4 := hid (row_on HX.out BV1.out)
  refine wp_region_held_drew (S := fun U => U.cell? ⟨G, 3, none⟩ = some (.map B) ∧ U.cell? ⟨R, 0, none⟩ = some (.int .u32 m) ∧ U.cell? ⟨R, 1, none⟩ = some (.int .i64 t)) (by kernel_rfl) ?_ (fun hHeld => ?_)
  · (try dsimp only); rw [hV1]; exact ⟨row_cell r2.out 3, row_cell r3.out 0, row_cell r3.out 1⟩
  rw [hV1] at hHeld ⊢
  clear hV1
  refine' wpAnyH_take (i := 0) rfl (by kernel_rfl) (by kernel_rfl) (by kernel_rfl) (fun _ _ _ h => h) (Or.inl ⟨by kernel_rfl, ?_⟩) (by assumption) ?_
  rotate_left
  · (intro w hSw; (try dsimp only at hSw); go_simp; try (with_reducible rfl))
  try simp only [lgA, lgB, lgC, Act.put, lsA, lsB, lsC]
  refine' wpAnyH_take (i := 1) rfl (by kernel_rfl) (by kernel_rfl) (by kernel_rfl) (fun _ _ _ h => h) (Or.inl ⟨by kernel_rfl, ?_⟩) (by assumption) ?_
  rotate_left
  · (intro w hSw; (try dsimp only at hSw); go_simp; try (with_reducible rfl))
  try simp only [lgA, lgB, lgC, Act.put, lsA, lsB, lsC]
  refine' wpAnyH_take (i := 2) rfl (by kernel_rfl) (by kernel_rfl) (by kernel_rfl) (fun _ _ _ h => h) (Or.inl ⟨by kernel_rfl, ?_⟩) (by assumption) ?_
  rotate_left
  · (intro w hSw; (try dsimp only at hSw); go_simp; try (with_reducible rfl))
  try simp only [lgA, lgB, lgC, Act.put, lsA, lsB, lsC]
  refine' wpAnyH_take (i := 3) rfl (by kernel_rfl) (by kernel_rfl) (by kernel_rfl) (fun _ _ _ h => h) (Or.inl ⟨by kernel_rfl, ?_⟩) (by assumption) ?_
  rotate_left
  · (intro w hSw; (try dsimp only at hSw); go_simp; try (with_reducible rfl))
  try simp only [lgA, lgB, lgC, Act.put, lsA, lsB, lsC]
  refine' wpAnyH_take (i := 4) rfl (by kernel_rfl) (by kernel_rfl) (by kernel_rfl) (fun _ _ _ h => h) (Or.inl ⟨by kernel_rfl, ?_⟩) (by assumption) ?_
  rotate_left
  · (intro w hSw; (try dsimp only at hSw); go_simp; try (with_reducible rfl))
  try simp only [lgA, lgB, lgC, Act.put, lsA, lsB, lsC]
  refine wpAnyH_ready (rs := [5]) (by kernel_rfl) (by simp) ?_
  refine (AllReadyH.cons rfl (fun K hK => ?_) AllReadyH.nil)
  have hl := LK.out _ BV1.out
  go_simp
  refine hK.out _ _ ?_ (fun hHeld => ?_)
  · (try dsimp only); exact ⟨row_cell r2.out 3, row_cell r3.out 0, row_cell r3.out 1⟩
  clear hK K
  try simp only [lgA, lgB, lgC, Act.put, lsA, lsB, lsC]
  refine wpAnyH_ready (rs := [6]) (by kernel_rfl) (by simp) ?_
  refine (AllReadyH.cons rfl (fun K hK => ?_) AllReadyH.nil)
  refine step_store_row (by rfl) 40 (.tmp 4) (.tmp 10) (by rfl) (R + 1) #[.int .u64 (hiW v), .int .u64 (loW v)] (by rfl) (by rfl) 40 _ r4.out infoM (by rfl) (by simp [Value.oneCell']) ?_
  obtain ⟨Y5, hY5⟩ : ∃ Y, V1.setRow (R + 1) #[.int .u64 (hiW v), .int .u64 (loW v)] = Y := ⟨_, rfl⟩
  have KY5 := hid (show Kp (fun j => j = R + 1) V1 Y5 from by rw [← hY5]; exact setRow_kp _ _ _)
  have AY5 := hid (show Y5.heap[R + 1]? = some (.cells #[.int .u64 (hiW v), .int .u64 (loW v)] 40 (0, 0)) from by rw [← hY5]; exact setRow_heap V1 (R + 1) _ _ 40 (0, 0) r4.out)
  have r6 := hid (KY5.out.row r2.out (fun e => n1 e))
  have r7 := hid (KY5.out.row r3.out (fun e => n2 e))
  rw [hY5]
  refine hK.out _ _ ?_ (fun hHeld => ?_)
  · (try dsimp only); exact ⟨row_cell r6.out 3, row_cell r7.out 0, row_cell r7.out 1⟩
  clear hK K
  try simp only [lgA, lgB, lgC, Act.put, lsA, lsB, lsC]
  clear hY5
  refine wpAnyH_done (by kernel_rfl) ?_ _
  go_wp2
  refine bodyPost_ret (results_cell_row (fn := Try.f14) Try.results14 _ _ (R + 1) 40 #[.int .u64 (hiW v), .int .u64 (loW v)] (0, 0) _ (by rfl) AY5.out Try.underlying40 rfl infoM) rfl ⟨rfl, ?_⟩
  exact (btr HBB.out BV1.out).trans (KY5.out.below (btr HBB.out BV1.out).size (fun j hj e => by have := HR.out; omega))
end Go.Proofs.Ytphhllppgelceaa.Ac
