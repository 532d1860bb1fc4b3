/-
  Contracts and plain facts, part 1.
-/
import Derived.Test.YtacdjioieclggaaDoorRows
import Derived.Test.YtacdjioieclggaaDoorCards
import Derived.Test.YtacdjioieclggaaDoorTie
import Derived.WalkKit
import Derived.WalkSpells
import Derived.WalkLawsBesides
import Derived.RowKit3
import Derived.Maps.OwnOps
import Derived.Maps.OwnSet
import Derived.Deep.QuietTactic
import Derived.BigQuiet
import Derived.OpenShut
import Derived.Deep.OwnRows
import Derived.Laws.CopyOwn
import Derived.Shelf.Strconv.Itoa0
import Derived.Shelf.Strconv.Itoa1
import Derived.Shelf.LaysM
import Derived.Shelf.Strconv.Itoa2
import Derived.Shelf.Strconv.Itoa3
import Derived.Shelf.Pu.ParseUintPublic10
import Derived.Shelf.Pu.ErrVarParseUint
import Derived.Test.YtacdjioieclggaaDoorProg
import Derived.Test.YtacdjioieclggaaDoorChecked
import Derived.Lib.ParseIntBCases
import Derived.Lib.ItoaNum
import Derived.Lib.ItoaLen
import Derived.Lib.AppendIntMem
import Derived.Lib.AtoiErrMem
import Derived.Stop.LaidErr
import Derived.Laws.AppendOwnNone
import Derived.Laws.OwnMore
import Derived.Deep.MidRow
import Derived.Lib.BufSteps
import Derived.Deep.RegionHeld3
import Derived.Deep.RegionWith
import Derived.Shelf.Strings.Search1
import Derived.Shelf.Strings.Search2
import Derived.Shelf.Strings.Cut
import Derived.Shelf.Strings.Shaped
import Derived.Deep.AppendLies
import Derived.Laws.BitsAllLaws
import Derived.Deep.DrawnRows
import Derived.ProofKit
import Derived.ChangeOld
import Derived.Below
import Derived.Lib.SmallJoins
import Derived.ShutString
import Derived.SizedLaws
import Derived.ChangeMaps5
import Derived.Deep.DeepHandedRow
import Derived.Lib.LaidTab
import Derived.Shelf.Vars
import Derived.Deep.Slices
import Derived.Deep.Strs
namespace Go.Proofs.YtacdjioieclggaaDoor.Msg
open Go.RowKit Go.Maps Go.Deep Go.Lib
set_option linter.unusedVariables false
set_option linter.unusedSimpArgs false
theorem hid {p : Prop} (h : p) : Hid p := h
theorem ball (w : World) (o : Obj) : Below w.heap.size w (w.alloc o) := (Below.refl _ _).alloc (Nat.le_refl _) _
theorem btr {a b c : World} (h : Below a.heap.size a b) (k : Below b.heap.size b c) : Below a.heap.size a c := h.trans (k.mono h.size)
theorem cell_lt {w : World} {b i : Nat} {v : Value} (h : w.cell? ⟨b, i, none⟩ = some v) : b < w.heap.size := by
  unfold World.cell? at h
  rcases Nat.lt_or_ge b w.heap.size with h' | h'
  · exact h'
  · simp [Array.getElem?_eq_none h'] at h

theorem law3 : Keyed Tryd.prog 3 := int_keyed Tryd.underlying3
theorem zero22 (w : World) : (zeroValue 22).run Tryd.prog w = .ok (.int .u64 0) w := by kernel_rfl
/-- a field's number is a word. -/
def Wd (x : Int) : Prop := 0 ≤ x ∧ x < 18446744073709551616
theorem wf_u {x : Int} (h : Wd x) : (Lit.int .u64 x).wf = true := by
  obtain ⟨h1, h2⟩ := h
  simp [Lit.wf, IntKind.min, IntKind.max, IntKind.signed, IntKind.bits]
  omega
theorem wf_i {x : Int} (h1 : -9223372036854775808 ≤ x) (h2 : x < 9223372036854775808) : (Lit.int .i64 x).wf = true := WalkArith.wf_i64 (by omega)
/-- block b is a map of at most n entries that holds f (0 where nothing stands). -/
def Fm (w : World) (b n : Nat) (f : Int → Int) : Prop :=
  ∃ D : DataW Unit, w.ownsMap Tryd.prog 3 (plainElem Tryd.prog 22) b n D ∧ ∀ t, D.atKey (.int .i64 t) (.lit (.int .u64 0)) = .lit (.int .u64 (f t))
theorem Fm.lt {w : World} {b n : Nat} {f : Int → Int} (h : Fm w b n f) : b < w.heap.size := by
  obtain ⟨D, h, _⟩ := h
  exact h.lt
theorem Fm.on {w w' : World} {b n : Nat} {f : Int → Int} (h : Fm w b n f) (hb : Below w.heap.size w w') : Fm w' b n f := by
  have hl := h.lt
  obtain ⟨D, ⟨es, clock, h1, h2⟩, h3⟩ := h
  exact ⟨D, ⟨es, clock, (hb.block b hl).trans h1, h2⟩, h3⟩
theorem Fm.grown {w w' : World} {b n : Nat} {f : Int → Int} {row : Option Nat} (h : Fm w b n f) (hg : w.grownBy w' row) (hne : some b ≠ row) : Fm w' b n f := by
  obtain ⟨D, h1, h3⟩ := h
  exact ⟨D, h1.kept hg hne, h3⟩
theorem Fm.setCell {w : World} {b n : Nat} {f : Int → Int} (h : Fm w b n f) {a : Addr} (ha : b ≠ a.block) (u : Value) : Fm (w.setCell a u) b n f := by
  obtain ⟨D, h1, h3⟩ := h
  exact ⟨D, h1.setCell ha u, h3⟩
theorem Fm.drew {w : World} {b n : Nat} {f : Int → Int} (h : Fm w b n f) : Fm w.drew b n f := h
theorem Fm.made (w : World) : Fm (w.alloc (.map #[] 0)) w.heap.size 0 (fun _ => 0) := ⟨.map [], World.ownsMap_made _ _ _ _, fun t => rfl⟩
theorem Fm.look {w : World} {b n : Nat} {f : Int → Int} (h : Fm w b n f) (t : Int) (ht : (Lit.int .i64 t).wf = true) : (Instr.lookup 59 (.map (some b)) (.int .i64 t) false).run Tryd.prog w = .ok (.int .u64 (f t)) w := by
  obtain ⟨D, h1, h3⟩ := h
  obtain ⟨c, hr, hat, _⟩ := h1.lookup_int law3 Tryd.underlying59 Tryd.underlying22 (zero22 w) (keyOf_int_mk Tryd.underlying3 ht)
  rw [h3 t] at hat
  simp only [DataW.lit.injEq, Lit.int.injEq, true_and] at hat
  rw [hr, hat]
theorem Fm.wd {w : World} {b n : Nat} {f : Int → Int} (h : Fm w b n f) (t : Int) (ht : (Lit.int .i64 t).wf = true) : Wd (f t) := by
  obtain ⟨D, h1, h3⟩ := h
  obtain ⟨c, hr, hat, hw⟩ := h1.lookup_int law3 Tryd.underlying59 Tryd.underlying22 (zero22 w) (keyOf_int_mk Tryd.underlying3 ht)
  rw [h3 t] at hat
  simp only [DataW.lit.injEq, Lit.int.injEq, true_and] at hat
  subst hat
  have := bounds_u64 hw
  unfold Wd
  omega
def upd (f : Int → Int) (t c : Int) : Int → Int := fun s => if s = t then c else f s
theorem Fm.put {w : World} {b n : Nat} {f : Int → Int} (h : Fm w b n f) (hn : n < 1000) (t c : Int) (ht : (Lit.int .i64 t).wf = true) (hc : Wd c) :
    ∃ w', (Instr.mapUpdate 59 (.map (some b)) (.int .i64 t) (.int .u64 c)).run Tryd.prog w = .ok () w' ∧ Fm w' b (n + 1) (upd f t c) ∧ w.grownBy w' (some b) := by
  obtain ⟨D, h1, h3⟩ := h
  obtain ⟨w', hr, h4, h5⟩ := h1.update law3 Tryd.underlying59 (by unfold maxLen; omega) (keyOf_int_mk Tryd.underlying3 ht) (plainElem_int Tryd.underlying22 (wf_u hc))
  refine ⟨w', hr, ⟨_, h4, fun s => ?_⟩, h5⟩
  unfold upd
  by_cases e : s = t
  · subst e
    rw [if_pos rfl, atKey_put_same h1.isMap (by simp [WideAt.IsKeyLit])]
  · rw [if_neg e, atKey_put_other (by simp [e]), h3]
theorem wpList_fm_put (w : World) {ops : Array Oper} {rest : List Oper} {o : Oper} {a : Act} {Q : Exit → Act → World → Prop}
    (hg : o.guard = none) (m x v : Operand) (hop : o.op = Op.mapUpdate 59 m x v ∨ o.op = Op.insert 59 m x v) (b n : Nat) (f : Int → Int) (t c : Int)
    (hm : a.eval m = .map (some b)) (hx : a.eval x = .int .i64 t) (hv : a.eval v = .int .u64 c) (h : Fm w b n f) (hn : n < 1000) (ht : (Lit.int .i64 t).wf = true) (hc : Wd c)
    (hK : ∀ w', Fm w' b (n + 1) (upd f t c) → w.grownBy w' (some b) → wpList Tryd.prog ops Q rest (a.put o.dst undef) w') : wpList Tryd.prog ops Q (o :: rest) a w := by
  refine wpList_plain hg fun K' hK' => ?_
  obtain ⟨w', hrun, r1, r2⟩ := h.put hn t c ht hc
  unfold Oper.wp
  rcases hop with hop | hop
  · simp [execOp, hop, hm, hx, hv, hrun, Result.andThen]
    exact hK' _ _ (hK w' r1 r2)
  · simp [execOp, hop, hm, hx, hv, hrun, Result.andThen]
    exact hK' _ _ (hK w' r1 r2)

/-- numbers in a row of memory. -/
def Sn (w : World) (q : Option Addr) (l : List Int) : Prop := ∀ i (h : i < l.length), ∃ b o, q = some ⟨b, o, none⟩ ∧ w.cell? ⟨b, o + i, none⟩ = some (.int .i64 l[i])
theorem Sn.on {w w' : World} {q : Option Addr} {l : List Int} (h : Sn w q l) (hb : Below w.heap.size w w') : Sn w' q l := fun i hi => by
  obtain ⟨b, o, e, hc⟩ := h i hi
  exact ⟨b, o, e, (hb.cell (cell_lt hc)).trans hc⟩
theorem sn_new (w : World) (cs : Array Value) (l : List Int) (h : cs.toList = l.map (fun x => Value.int .i64 x)) : Sn (w.alloc (.cells cs 3)) (some ⟨w.heap.size, 0, none⟩) l := by
  intro i hi
  refine ⟨w.heap.size, 0, rfl, ?_⟩
  have h1 : cs[i]? = some (.int .i64 l[i]) := by
    rw [← Array.getElem?_toList, h]
    simp [hi]
  rw [Nat.zero_add, World.cell?_alloc_new]
  exact h1
def tagsL (k : Int) : List Int :=
  if k = 1 then [11, 1, 54, 40, 44, 38, 210] else
  if k = 2 then [41] else
  if k = 3 then [41, 11, 44, 38, 210] else
  if k = 4 then [9001] else
  if k = 65 then [34, 11, 1, 54, 40, 44, 38, 210] else
  if k = 66 then [34, 11, 41, 103] else
  if k = 67 then [34, 11, 37, 54, 44, 38] else
  if k = 68 then [34, 11, 38, 378] else
  if k = 69 then [34, 11, 44, 38] else []

def bnd (t : Int) : Int :=
  if t = 54 then 255 else if t = 40 then 255 else if t = 378 then 255 else if t = 9001 then 255 else if t = 1 then 4294967295 else if t = 44 then 4294967295 else if t = 103 then 4294967295 else 18446744073709551615

def plU (t : Int) : Int :=
  if t = 11 then 1 else if t = 9001 then 1 else if t = 41 then 2 else if t = 37 then 2 else if t = 1 then 3 else if t = 54 then 3 else if t = 40 then 3 else if t = 378 then 3 else if t = 44 then 4 else if t = 103 then 4 else if t = 38 then 5 else if t = 210 then 6 else 0

def plB (t : Int) : Int :=
  if t = 54 then 32 else if t = 40 then 40 else if t = 378 then 48 else if t = 103 then 32 else 0

def plW (k t : Int) : Int := if 1 ≤ k ∧ k ≤ 4 then plU t - 1 else plU t
theorem bound_any (t : Int) (w : World) : Calls Tryd.prog 70 #[.int .i64 t] w fun e w' => e = .returned (.int .u64 (bnd t)) ∧ w' = w := by
  unfold bnd
  by_cases h0 : t = 54
  · subst h0
    go_enter Tryd.func70, Tryd.ntmps70
    go_wp2
    go_ret
    exact ⟨by simp, rfl⟩
  by_cases h1 : t = 40
  · subst h1
    go_enter Tryd.func70, Tryd.ntmps70
    go_wp2
    go_ret
    exact ⟨by simp, rfl⟩
  by_cases h2 : t = 378
  · subst h2
    go_enter Tryd.func70, Tryd.ntmps70
    go_wp2
    go_ret
    exact ⟨by simp, rfl⟩
  by_cases h3 : t = 9001
  · subst h3
    go_enter Tryd.func70, Tryd.ntmps70
    go_wp2
    go_ret
    exact ⟨by simp, rfl⟩
  by_cases h4 : t = 1
  · subst h4
    go_enter Tryd.func70, Tryd.ntmps70
    go_wp2
    go_ret
    exact ⟨by simp, rfl⟩
  by_cases h5 : t = 44
  · subst h5
    go_enter Tryd.func70, Tryd.ntmps70
    go_wp2
    go_ret
    exact ⟨by simp, rfl⟩
  by_cases h6 : t = 103
  · subst h6
    go_enter Tryd.func70, Tryd.ntmps70
    go_wp2
    go_ret
    exact ⟨by simp, rfl⟩
  go_enter Tryd.func70, Tryd.ntmps70
  go_wp2
  go_ret
  exact ⟨by simp [h0, h1, h2, h3, h4, h5, h6], rfl⟩

theorem isInput_any (k : Int) (w : World) : Calls Tryd.prog 36 #[.int .u8 k] w fun e w' => e = .returned (.bool (decide (1 ≤ k ∧ k ≤ 4))) ∧ w' = w := by
  by_cases h1 : 1 ≤ k
  · by_cases h2 : k ≤ 4
    · go_enter Tryd.func36, Tryd.ntmps36
      go_wp2
      go_ret
      exact ⟨by simp [h1, h2], rfl⟩
    · go_enter Tryd.func36, Tryd.ntmps36
      go_wp2
      go_ret
      exact ⟨by simp [h1, h2], rfl⟩
  · go_enter Tryd.func36, Tryd.ntmps36
    go_wp2
    go_ret
    exact ⟨by simp; omega, rfl⟩
set_option maxHeartbeats 1000000 in
theorem place_any (k t : Int) (w : World) : Calls Tryd.prog 69 #[.int .u8 k, .int .i64 t] w fun e w' => e = .returned (.tuple #[.int .i64 (plW k t), .int .i64 (plB t)]) ∧ w' = w := by
  unfold plW
  by_cases h0 : t = 11
  · subst h0
    by_cases hi : 1 ≤ k ∧ k ≤ 4
    · rw [if_pos hi] at *
      have IK := isInput_any k
      rw [show decide (1 ≤ k ∧ k ≤ 4) = true from by simp [hi]] at IK
      clear hi
      go_enter Tryd.func69, Tryd.ntmps69
      go_wp2_with (go_at_call 36; refine (IK _).mono ?_; rintro e w' ⟨rfl, rfl⟩)
      go_ret2
      exact ⟨by simp [plU, plB], rfl⟩
    · rw [if_neg hi] at *
      have IK := isInput_any k
      rw [show decide (1 ≤ k ∧ k ≤ 4) = false from by simp [hi]] at IK
      clear hi
      go_enter Tryd.func69, Tryd.ntmps69
      go_wp2_with (go_at_call 36; refine (IK _).mono ?_; rintro e w' ⟨rfl, rfl⟩)
      go_ret2
      exact ⟨by simp [plU, plB], rfl⟩
  by_cases h1 : t = 9001
  · subst h1
    by_cases hi : 1 ≤ k ∧ k ≤ 4
    · rw [if_pos hi] at *
      have IK := isInput_any k
      rw [show decide (1 ≤ k ∧ k ≤ 4) = true from by simp [hi]] at IK
      clear hi
      go_enter Tryd.func69, Tryd.ntmps69
      go_wp2_with (go_at_call 36; refine (IK _).mono ?_; rintro e w' ⟨rfl, rfl⟩)
      go_ret2
      exact ⟨by simp [plU, plB], rfl⟩
    · rw [if_neg hi] at *
      have IK := isInput_any k
      rw [show decide (1 ≤ k ∧ k ≤ 4) = false from by simp [hi]] at IK
      clear hi
      go_enter Tryd.func69, Tryd.ntmps69
      go_wp2_with (go_at_call 36; refine (IK _).mono ?_; rintro e w' ⟨rfl, rfl⟩)
      go_ret2
      exact ⟨by simp [plU, plB], rfl⟩
  by_cases h2 : t = 41
  · subst h2
    by_cases hi : 1 ≤ k ∧ k ≤ 4
    · rw [if_pos hi] at *
      have IK := isInput_any k
      rw [show decide (1 ≤ k ∧ k ≤ 4) = true from by simp [hi]] at IK
      clear hi
      go_enter Tryd.func69, Tryd.ntmps69
      go_wp2_with (go_at_call 36; refine (IK _).mono ?_; rintro e w' ⟨rfl, rfl⟩)
      go_ret2
      exact ⟨by simp [plU, plB], rfl⟩
    · rw [if_neg hi] at *
      have IK := isInput_any k
      rw [show decide (1 ≤ k ∧ k ≤ 4) = false from by simp [hi]] at IK
      clear hi
      go_enter Tryd.func69, Tryd.ntmps69
      go_wp2_with (go_at_call 36; refine (IK _).mono ?_; rintro e w' ⟨rfl, rfl⟩)
      go_ret2
      exact ⟨by simp [plU, plB], rfl⟩
  by_cases h3 : t = 37
  · subst h3
    by_cases hi : 1 ≤ k ∧ k ≤ 4
    · rw [if_pos hi] at *
      have IK := isInput_any k
      rw [show decide (1 ≤ k ∧ k ≤ 4) = true from by simp [hi]] at IK
      clear hi
      go_enter Tryd.func69, Tryd.ntmps69
      go_wp2_with (go_at_call 36; refine (IK _).mono ?_; rintro e w' ⟨rfl, rfl⟩)
      go_ret2
      exact ⟨by simp [plU, plB], rfl⟩
    · rw [if_neg hi] at *
      have IK := isInput_any k
      rw [show decide (1 ≤ k ∧ k ≤ 4) = false from by simp [hi]] at IK
      clear hi
      go_enter Tryd.func69, Tryd.ntmps69
      go_wp2_with (go_at_call 36; refine (IK _).mono ?_; rintro e w' ⟨rfl, rfl⟩)
      go_ret2
      exact ⟨by simp [plU, plB], rfl⟩
  by_cases h4 : t = 1
  · subst h4
    by_cases hi : 1 ≤ k ∧ k ≤ 4
    · rw [if_pos hi] at *
      have IK := isInput_any k
      rw [show decide (1 ≤ k ∧ k ≤ 4) = true from by simp [hi]] at IK
      clear hi
      go_enter Tryd.func69, Tryd.ntmps69
      go_wp2_with (go_at_call 36; refine (IK _).mono ?_; rintro e w' ⟨rfl, rfl⟩)
      go_ret2
      exact ⟨by simp [plU, plB], rfl⟩
    · rw [if_neg hi] at *
      have IK := isInput_any k
      rw [show decide (1 ≤ k ∧ k ≤ 4) = false from by simp [hi]] at IK
      clear hi
      go_enter Tryd.func69, Tryd.ntmps69
      go_wp2_with (go_at_call 36; refine (IK _).mono ?_; rintro e w' ⟨rfl, rfl⟩)
      go_ret2
      exact ⟨by simp [plU, plB], rfl⟩
  by_cases h5 : t = 54
  · subst h5
    by_cases hi : 1 ≤ k ∧ k ≤ 4
    · rw [if_pos hi] at *
      have IK := isInput_any k
      rw [show decide (1 ≤ k ∧ k ≤ 4) = true from by simp [hi]] at IK
      clear hi
      go_enter Tryd.func69, Tryd.ntmps69
      go_wp2_with (go_at_call 36; refine (IK _).mono ?_; rintro e w' ⟨rfl, rfl⟩)
      go_ret2
      exact ⟨by simp [plU, plB], rfl⟩
    · rw [if_neg hi] at *
      have IK := isInput_any k
      rw [show decide (1 ≤ k ∧ k ≤ 4) = false from by simp [hi]] at IK
      clear hi
      go_enter Tryd.func69, Tryd.ntmps69
      go_wp2_with (go_at_call 36; refine (IK _).mono ?_; rintro e w' ⟨rfl, rfl⟩)
      go_ret2
      exact ⟨by simp [plU, plB], rfl⟩
  by_cases h6 : t = 40
  · subst h6
    by_cases hi : 1 ≤ k ∧ k ≤ 4
    · rw [if_pos hi] at *
      have IK := isInput_any k
      rw [show decide (1 ≤ k ∧ k ≤ 4) = true from by simp [hi]] at IK
      clear hi
      go_enter Tryd.func69, Tryd.ntmps69
      go_wp2_with (go_at_call 36; refine (IK _).mono ?_; rintro e w' ⟨rfl, rfl⟩)
      go_ret2
      exact ⟨by simp [plU, plB], rfl⟩
    · rw [if_neg hi] at *
      have IK := isInput_any k
      rw [show decide (1 ≤ k ∧ k ≤ 4) = false from by simp [hi]] at IK
      clear hi
      go_enter Tryd.func69, Tryd.ntmps69
      go_wp2_with (go_at_call 36; refine (IK _).mono ?_; rintro e w' ⟨rfl, rfl⟩)
      go_ret2
      exact ⟨by simp [plU, plB], rfl⟩
  by_cases h7 : t = 378
  · subst h7
    by_cases hi : 1 ≤ k ∧ k ≤ 4
    · rw [if_pos hi] at *
      have IK := isInput_any k
      rw [show decide (1 ≤ k ∧ k ≤ 4) = true from by simp [hi]] at IK
      clear hi
      go_enter Tryd.func69, Tryd.ntmps69
      go_wp2_with (go_at_call 36; refine (IK _).mono ?_; rintro e w' ⟨rfl, rfl⟩)
      go_ret2
      exact ⟨by simp [plU, plB], rfl⟩
    · rw [if_neg hi] at *
      have IK := isInput_any k
      rw [show decide (1 ≤ k ∧ k ≤ 4) = false from by simp [hi]] at IK
      clear hi
      go_enter Tryd.func69, Tryd.ntmps69
      go_wp2_with (go_at_call 36; refine (IK _).mono ?_; rintro e w' ⟨rfl, rfl⟩)
      go_ret2
      exact ⟨by simp [plU, plB], rfl⟩
  by_cases h8 : t = 44
  · subst h8
    by_cases hi : 1 ≤ k ∧ k ≤ 4
    · rw [if_pos hi] at *
      have IK := isInput_any k
      rw [show decide (1 ≤ k ∧ k ≤ 4) = true from by simp [hi]] at IK
      clear hi
      go_enter Tryd.func69, Tryd.ntmps69
      go_wp2_with (go_at_call 36; refine (IK _).mono ?_; rintro e w' ⟨rfl, rfl⟩)
      go_ret2
      exact ⟨by simp [plU, plB], rfl⟩
    · rw [if_neg hi] at *
      have IK := isInput_any k
      rw [show decide (1 ≤ k ∧ k ≤ 4) = false from by simp [hi]] at IK
      clear hi
      go_enter Tryd.func69, Tryd.ntmps69
      go_wp2_with (go_at_call 36; refine (IK _).mono ?_; rintro e w' ⟨rfl, rfl⟩)
      go_ret2
      exact ⟨by simp [plU, plB], rfl⟩
  by_cases h9 : t = 103
  · subst h9
    by_cases hi : 1 ≤ k ∧ k ≤ 4
    · rw [if_pos hi] at *
      have IK := isInput_any k
      rw [show decide (1 ≤ k ∧ k ≤ 4) = true from by simp [hi]] at IK
      clear hi
      go_enter Tryd.func69, Tryd.ntmps69
      go_wp2_with (go_at_call 36; refine (IK _).mono ?_; rintro e w' ⟨rfl, rfl⟩)
      go_ret2
      exact ⟨by simp [plU, plB], rfl⟩
    · rw [if_neg hi] at *
      have IK := isInput_any k
      rw [show decide (1 ≤ k ∧ k ≤ 4) = false from by simp [hi]] at IK
      clear hi
      go_enter Tryd.func69, Tryd.ntmps69
      go_wp2_with (go_at_call 36; refine (IK _).mono ?_; rintro e w' ⟨rfl, rfl⟩)
      go_ret2
      exact ⟨by simp [plU, plB], rfl⟩
  by_cases h10 : t = 38
  · subst h10
    by_cases hi : 1 ≤ k ∧ k ≤ 4
    · rw [if_pos hi] at *
      have IK := isInput_any k
      rw [show decide (1 ≤ k ∧ k ≤ 4) = true from by simp [hi]] at IK
      clear hi
      go_enter Tryd.func69, Tryd.ntmps69
      go_wp2_with (go_at_call 36; refine (IK _).mono ?_; rintro e w' ⟨rfl, rfl⟩)
      go_ret2
      exact ⟨by simp [plU, plB], rfl⟩
    · rw [if_neg hi] at *
      have IK := isInput_any k
      rw [show decide (1 ≤ k ∧ k ≤ 4) = false from by simp [hi]] at IK
      clear hi
      go_enter Tryd.func69, Tryd.ntmps69
      go_wp2_with (go_at_call 36; refine (IK _).mono ?_; rintro e w' ⟨rfl, rfl⟩)
      go_ret2
      exact ⟨by simp [plU, plB], rfl⟩
  by_cases h11 : t = 210
  · subst h11
    by_cases hi : 1 ≤ k ∧ k ≤ 4
    · rw [if_pos hi] at *
      have IK := isInput_any k
      rw [show decide (1 ≤ k ∧ k ≤ 4) = true from by simp [hi]] at IK
      clear hi
      go_enter Tryd.func69, Tryd.ntmps69
      go_wp2_with (go_at_call 36; refine (IK _).mono ?_; rintro e w' ⟨rfl, rfl⟩)
      go_ret2
      exact ⟨by simp [plU, plB], rfl⟩
    · rw [if_neg hi] at *
      have IK := isInput_any k
      rw [show decide (1 ≤ k ∧ k ≤ 4) = false from by simp [hi]] at IK
      clear hi
      go_enter Tryd.func69, Tryd.ntmps69
      go_wp2_with (go_at_call 36; refine (IK _).mono ?_; rintro e w' ⟨rfl, rfl⟩)
      go_ret2
      exact ⟨by simp [plU, plB], rfl⟩
  by_cases hi : 1 ≤ k ∧ k ≤ 4
  · rw [if_pos hi] at *
    have IK := isInput_any k
    rw [show decide (1 ≤ k ∧ k ≤ 4) = true from by simp [hi]] at IK
    clear hi
    go_enter Tryd.func69, Tryd.ntmps69
    go_wp2_with (go_at_call 36; refine (IK _).mono ?_; rintro e w' ⟨rfl, rfl⟩)
    go_ret2
    exact ⟨by simp [plU, plB, h0, h1, h2, h3, h4, h5, h6, h7, h8, h9, h10, h11], rfl⟩
  · rw [if_neg hi] at *
    have IK := isInput_any k
    rw [show decide (1 ≤ k ∧ k ≤ 4) = false from by simp [hi]] at IK
    clear hi
    go_enter Tryd.func69, Tryd.ntmps69
    go_wp2_with (go_at_call 36; refine (IK _).mono ?_; rintro e w' ⟨rfl, rfl⟩)
    go_ret2
    exact ⟨by simp [plU, plB, h0, h1, h2, h3, h4, h5, h6, h7, h8, h9, h10, h11], rfl⟩

def TagsP (k : Int) (w : World) (e : Ending) (w' : World) : Prop := ∃ q cap, e = .returned (.slice q (tagsL k).length cap) ∧ Sn w' q (tagsL k) ∧ Below w.heap.size w w'
set_option maxHeartbeats 1000000 in
theorem tags_any (k : Int) (w : World) : Calls Tryd.prog 50 #[.int .u8 k] w fun e w' => TagsP k w e w' := by
  by_cases h0 : k = 1
  · subst h0
    go_enter Tryd.func50, Tryd.ntmps50
    go_wp2
    go_ret
    exact ⟨some ⟨w.heap.size, 0, none⟩, 7, rfl, sn_new w _ [11, 1, 54, 40, 44, 38, 210] rfl, ball _ _⟩
  by_cases h1 : k = 2
  · subst h1
    go_enter Tryd.func50, Tryd.ntmps50
    go_wp2
    go_ret
    exact ⟨some ⟨w.heap.size, 0, none⟩, 1, rfl, sn_new w _ [41] rfl, ball _ _⟩
  by_cases h2 : k = 3
  · subst h2
    go_enter Tryd.func50, Tryd.ntmps50
    go_wp2
    go_ret
    exact ⟨some ⟨w.heap.size, 0, none⟩, 5, rfl, sn_new w _ [41, 11, 44, 38, 210] rfl, ball _ _⟩
  by_cases h3 : k = 4
  · subst h3
    go_enter Tryd.func50, Tryd.ntmps50
    go_wp2
    go_ret
    exact ⟨some ⟨w.heap.size, 0, none⟩, 1, rfl, sn_new w _ [9001] rfl, ball _ _⟩
  by_cases h4 : k = 65
  · subst h4
    go_enter Tryd.func50, Tryd.ntmps50
    go_wp2
    go_ret
    exact ⟨some ⟨w.heap.size, 0, none⟩, 8, rfl, sn_new w _ [34, 11, 1, 54, 40, 44, 38, 210] rfl, ball _ _⟩
  by_cases h5 : k = 66
  · subst h5
    go_enter Tryd.func50, Tryd.ntmps50
    go_wp2
    go_ret
    exact ⟨some ⟨w.heap.size, 0, none⟩, 4, rfl, sn_new w _ [34, 11, 41, 103] rfl, ball _ _⟩
  by_cases h6 : k = 67
  · subst h6
    go_enter Tryd.func50, Tryd.ntmps50
    go_wp2
    go_ret
    exact ⟨some ⟨w.heap.size, 0, none⟩, 6, rfl, sn_new w _ [34, 11, 37, 54, 44, 38] rfl, ball _ _⟩
  by_cases h7 : k = 68
  · subst h7
    go_enter Tryd.func50, Tryd.ntmps50
    go_wp2
    go_ret
    exact ⟨some ⟨w.heap.size, 0, none⟩, 4, rfl, sn_new w _ [34, 11, 38, 378] rfl, ball _ _⟩
  by_cases h8 : k = 69
  · subst h8
    go_enter Tryd.func50, Tryd.ntmps50
    go_wp2
    go_ret
    exact ⟨some ⟨w.heap.size, 0, none⟩, 4, rfl, sn_new w _ [34, 11, 44, 38] rfl, ball _ _⟩
  have e : tagsL k = [] := by simp [tagsL, h0, h1, h2, h3, h4, h5, h6, h7, h8]
  go_enter Tryd.func50, Tryd.ntmps50
  go_wp2
  go_ret
  unfold TagsP
  rw [e]
  exact ⟨none, 0, rfl, fun i hi => absurd hi (by simp), Below.refl _ _⟩

end Go.Proofs.YtacdjioieclggaaDoor.Msg
namespace Go.Proofs.YtacdjioieclggaaDoor.Msg
open Go.RowKit Go.Maps Go.Deep Go.Lib
set_option linter.unusedVariables false
set_option linter.unusedSimpArgs false
theorem Fm.alloc {w : World} {b n : Nat} {f : Int → Int} (h : Fm w b n f) (o : Obj) : Fm (w.alloc o) b n f := h.on (ball w o)
theorem wpList_fm_look (w : World) {ops : Array Oper} {rest : List Oper} {o : Oper} {a : Act} {Q : Exit → Act → World → Prop}
    (hg : o.guard = none) (m x : Operand) (hop : o.op = Op.lookup 59 m x false) (b n : Nat) (f : Int → Int) (t : Int)
    (hm : a.eval m = .map (some b)) (hx : a.eval x = .int .i64 t) (h : Fm w b n f) (ht : (Lit.int .i64 t).wf = true)
    (hK : wpList Tryd.prog ops Q rest (a.put o.dst (.int .u64 (f t))) w) : wpList Tryd.prog ops Q (o :: rest) a w := by
  refine wpList_plain hg fun K' hK' => ?_
  have hrun := h.look t ht
  unfold Oper.wp
  simp [execOp, hop, hm, hx, hrun, Result.andThen]
  exact hK' _ _ hK
/-- a whole row is written, and nothing else. -/
structure St (w : World) (g : Nat) (t : TypeId) (cs : Array Value) (w' : World) : Prop where
  row : w'.heap[g]? = some (.cells cs t (0, 0))
  oth : ∀ k, k ≠ g → w'.heap[k]? = w.heap[k]?
  siz : w'.heap.size = w.heap.size
  bel : ∀ B W0, Below B W0 w → B ≤ g → Below B W0 w'
theorem wpList_st {ops : Array Oper} {rest : List Oper} {o : Oper} {a : Act} {w : World} {Q : Exit → Act → World → Prop} (hgd : o.guard = none) (ty : TypeId) (x y : Operand) (ho : o.op = .store ty x y)
    (g : Nat) (cells : Array Value) (hx : a.eval x = .pointer (some ⟨g, 0, none⟩)) (hy : a.eval y = .agg cells)
    (t : TypeId) (old : Array Value) (hg : w.heap[g]? = some (.cells old t (0, 0))) (hi : (Tryd.prog.info? ty).map (·.size) = some cells.size)
    (hold : old.size = cells.size) (h1 : cells.all (·.oneCell') = true)
    (h : ∀ w', St w g t cells w' → wpList Tryd.prog ops Q rest (a.put o.dst undef) w') : wpList Tryd.prog ops Q (o :: rest) a w :=
  wpList_store_row hgd ty x y ho g cells hx hy t old hg hi hold h1 (h _ ⟨setRow_heap _ _ _ _ t (0, 0) hg, fun k hk => setRow_other _ _ _ _ hk, by simp, fun B W0 hb hB => below_setRow hb hB _⟩)
theorem St.cell {w w' : World} {g : Nat} {t : TypeId} {cs : Array Value} (h : St w g t cs w') {b j : Nat} {v : Value} (hb : b ≠ g) (hc : w.cell? ⟨b, j, none⟩ = some v) : w'.cell? ⟨b, j, none⟩ = some v := by
  unfold World.cell? at hc ⊢
  simp only [h.oth b hb]
  exact hc
theorem St.fm {w w' : World} {g : Nat} {t : TypeId} {cs : Array Value} (h : St w g t cs w') {b n : Nat} {f : Int → Int} (hb : b ≠ g) (hF : Fm w b n f) : Fm w' b n f := by
  obtain ⟨D, ⟨es, clock, h1, h2⟩, h3⟩ := hF
  exact ⟨D, ⟨es, clock, (h.oth b hb).trans h1, h2⟩, h3⟩
theorem row_cell {w : World} {g : Nat} {t : TypeId} {cs : Array Value} (h : w.heap[g]? = some (.cells cs t (0, 0))) (j : Nat) : w.cell? ⟨g, j, none⟩ = cs[j]? := cell_of_row w g j cs t (0, 0) h
theorem row_on {w w' : World} {g : Nat} {o : Obj} (h : w.heap[g]? = some o) (hb : Below w.heap.size w w') : w'.heap[g]? = some o := by
  have hl : g < w.heap.size := by
    rcases Nat.lt_or_ge g w.heap.size with h' | h'
    · exact h'
    · simp [Array.getElem?_eq_none h'] at h
  rw [hb.block g hl]
  exact h
theorem info27 : (Tryd.prog.info? 27).map (·.size) = some 11 := by kernel_rfl
theorem info39 : (Tryd.prog.info? 30).map (·.size) = some 13 := by kernel_rfl
theorem info30 : (Tryd.prog.info? 40).map (·.size) = some 8 := by kernel_rfl
theorem info25 : (Tryd.prog.info? 25).map (·.size) = some 9 := by kernel_rfl
theorem info46 : (Tryd.prog.info? 61).map (·.size) = some 2 := by kernel_rfl

theorem alloc_size (w : World) (o : Obj) : (w.alloc o).heap.size = w.heap.size + 1 := by simp
theorem heap2 (w : World) (o1 o2 : Obj) : ((w.alloc o1).alloc o2).heap[w.heap.size + 1]? = some o2 := by rw [← alloc_size w o1]; exact heap_alloc_new _ _
def u32 (x : Int) : Int := x % 4294967296
def s64 (x : Int) : Int := wrap64 x
/-- an input, as cells. -/
def iV (k c i t m s y p q e g : Int) : Array Value := #[.int .i64 k, .int .i64 c, .int .u64 i, .int .u64 t, .int .u32 m, .int .i64 s, .int .i64 y, .int .i64 p, .int .u64 q, .int .u64 e, .int .i64 g]
/-- an event, as cells. -/
def eV (n k i o t m s y p q e r c : Int) : Array Value := #[.int .u64 n, .int .i64 k, .int .u64 i, .int .u64 o, .int .u64 t, .int .u32 m, .int .i64 s, .int .i64 y, .int .i64 p, .int .u64 q, .int .u64 e, .int .i64 r, .int .i64 c]
def inpV (k : Int) (f : Int → Int) : Array Value :=
  if k = 4 then iV 2 0 0 0 0 0 0 0 0 0 (s64 (f 9001)) else iV 1 k (f 11) (f 41) (u32 (f 1)) (s64 (f 54)) (s64 (f 40)) (s64 (f 44)) (f 38) (f 210) 0
def evtV (k : Int) (f : Int → Int) : Array Value := eV (f 34) (k - 64) (f 11) (f 37) (f 41) (u32 (f 1)) (s64 (f 54)) (s64 (f 40)) (s64 (f 44)) (f 38) (f 210) (s64 (f 378)) (s64 (f 103))

set_option maxHeartbeats 1000000 in
set_option maxRecDepth 100000 in
theorem input_any (k : Int) (b n : Nat) (f : Int → Int) (w : World) (hk0 : 0 ≤ k) (hk : k < 256) (hF : Fm w b n f) :
    Calls Tryd.prog 38 #[.agg #[.int .u8 k, .map (some b)]] w fun e w' => e = .returned (.agg (inpV k f)) ∧ Below w.heap.size w w' := by
  have HF := hid hF
  clear hF
  unfold inpV
  by_cases h4 : k = 4
  · subst h4
    rw [if_pos rfl]
    go_enter Tryd.func38, Tryd.ntmps38
    go_wp2_with (first | (at_lookup; refine wpList_fm_look _ rfl _ _ rfl b n f _ rfl rfl ((HF.out.alloc _).alloc _) (by decide) ?_))
    exact bodyPost_ret (results_cell_row (fn := Tryd.f38) Tryd.results38 _ _ (w.heap.size + 1) 27 (iV 2 0 0 0 0 0 0 0 0 0 (s64 (f 9001))) (0, 0) _ (by rfl) (heap2 _ _ _) Tryd.underlying27 rfl info27) rfl ⟨rfl, btr (ball _ _) (ball _ _)⟩
  · rw [if_neg h4]
    go_enter Tryd.func38, Tryd.ntmps38
    go_wp2_with (first | (at_lookup; refine wpList_fm_look _ rfl _ _ rfl b n f _ rfl rfl ((HF.out.alloc _).alloc _) (by decide) ?_))
    refine bodyPost_ret (results_cell_row (fn := Tryd.f38) Tryd.results38 _ _ (w.heap.size + 1) 27 (iV 1 k (f 11) (f 41) (u32 (f 1)) (s64 (f 54)) (s64 (f 40)) (s64 (f 44)) (f 38) (f 210) 0) (0, 0) _ (by rfl) (heap2 _ _ _) Tryd.underlying27 rfl info27) rfl ⟨?_, btr (ball _ _) (ball _ _)⟩
    rfl
set_option maxHeartbeats 1000000 in
set_option maxRecDepth 100000 in
theorem event_any (k : Int) (b n : Nat) (f : Int → Int) (w : World) (hk0 : 64 ≤ k) (hk : k < 256) (hF : Fm w b n f) :
    Calls Tryd.prog 43 #[.agg #[.int .u8 k, .map (some b)]] w fun e w' => e = .returned (.agg (evtV k f)) ∧ Below w.heap.size w w' := by
  have HF := hid hF
  clear hF
  have e1 : IntKind.u8.wrap (k - 64) = k - 64 := by rw [IntKind.wrap_u8]; omega
  go_enter Tryd.func43, Tryd.ntmps43
  go_wp2_with (first | (at_lookup; refine wpList_fm_look _ rfl _ _ rfl b n f _ rfl rfl ((HF.out.alloc _).alloc _) (by decide) ?_))
  refine bodyPost_ret (results_cell_row (fn := Tryd.f43) Tryd.results43 _ _ (w.heap.size + 1) 30 (evtV k f) (0, 0) _ (by rfl) (heap2 _ _ _) Tryd.underlying30 rfl info39) rfl ⟨?_, btr (ball _ _) (ball _ _)⟩
  rfl
end Go.Proofs.YtacdjioieclggaaDoor.Msg
namespace Go.Proofs.YtacdjioieclggaaDoor.Msg
open Go.RowKit Go.Maps Go.Deep Go.Lib
set_option linter.unusedVariables false
set_option linter.unusedSimpArgs false
theorem tags_in (k : Int) : ∀ t ∈ tagsL k, 0 < t ∧ t < 10000 := by
  unfold tagsL
  intro t ht
  repeat' split at ht
  all_goals simp at ht
  all_goals omega
theorem tags_len (k : Int) : (tagsL k).length ≤ 8 := by
  unfold tagsL
  repeat' split
  all_goals simp
theorem wf_tag {t : Int} (h : 0 < t ∧ t < 10000) : (Lit.int .i64 t).wf = true := wf_i (by omega) (by omega)
/-- the fields that were taken. -/
def only (l : List Int) (f : Int → Int) : Int → Int := fun t => if t ∈ l then f t else 0
theorem only_step (l : List Int) (f : Int → Int) (j : Nat) (h : j < l.length) : only (l.take (j + 1)) f = upd (only (l.take j) f) l[j] (f l[j]) := by
  have hm : ∀ s, s ∈ l.take (j + 1) ↔ (s ∈ l.take j ∨ s = l[j]) := by
    intro s
    rw [List.take_succ_eq_append_getElem h, List.mem_append, List.mem_singleton]
  funext s
  unfold only upd
  by_cases e : s = l[j]
  · rw [if_pos ((hm s).2 (Or.inr e)), if_pos e, e]
  · rw [if_neg e]
    by_cases h2 : s ∈ l.take j
    · simp only [if_pos ((hm s).2 (Or.inl h2)), if_pos h2]
    · simp only [if_neg (fun h => (hm s).1 h |>.elim h2 e), if_neg h2]
theorem only_nil (f : Int → Int) : only [] f = fun _ => 0 := by
  funext s
  simp [only]
theorem Fm.zero {w : World} {b n : Nat} {f g : Int → Int} (h : Fm w b n f) (e : f = g) : Fm w b n g := e ▸ h
/-- is each field within its bound? -/
def inB (l : List Int) (f : Int → Int) : Bool := l.all fun t => decide (f t ≤ bnd t)
theorem res46 (fn : Func) (p u : Tmp) (h : fn.results = #[.cell p 61, .tmp u]) (tmps : Array Value) (w : World) (g : Nat) (cs : Array Value) (eu : Value)
    (hp : tmps.getD p undef = .pointer (some ⟨g, 0, none⟩)) (hu : tmps.getD u undef = eu) (hg : w.heap[g]? = some (.cells cs 61 (0, 0))) (hi : (Tryd.prog.info? 61).map (·.size) = some cs.size) :
    (results fn tmps).run Tryd.prog w = .ok (.tuple #[.agg cs, eu]) w := by
  have hp' : tmps[p]?.getD undef = .pointer (some ⟨g, 0, none⟩) := by simpa using hp
  have hu' : tmps[u]?.getD undef = eu := by simpa using hu
  simp [results, h, hp', hu', asAddr, run_loadVar_row w g 61 61 cs (0, 0) _ hg Tryd.underlying61 rfl hi]
/-- what pick says. -/
def PickP (k : Int) (f : Int → Int) (w : World) (e : Ending) (w' : World) : Prop :=
  Below w.heap.size w w' ∧ ((inB (tagsL k) f = false ∧ e = .returned (.tuple #[.agg #[.int .u8 0, .map none], .bool false])) ∨
    (inB (tagsL k) f = true ∧ ∃ b n, e = .returned (.tuple #[.agg #[.int .u8 k, .map (some b)], .bool true]) ∧ n ≤ 8 ∧ w.heap.size ≤ b ∧ Fm w' b n (only (tagsL k) f)))

theorem three (w : World) (o1 o2 o3 : Obj) {w2 : World} (hb : Below (((w.alloc o1).alloc o2).alloc o3).heap.size (((w.alloc o1).alloc o2).alloc o3) w2) :
    w2.heap[w.heap.size]? = some o1 ∧ w2.heap[w.heap.size + 1]? = some o2 ∧ w2.heap[w.heap.size + 1 + 1]? = some o3 ∧ Below w.heap.size w w2 := by
  have h3 : (((w.alloc o1).alloc o2).alloc o3).heap[w.heap.size + 1 + 1]? = some o3 := by
    have := heap2 (w.alloc o1) o2 o3
    rw [alloc_size] at this
    exact this
  have h2 : (((w.alloc o1).alloc o2).alloc o3).heap[w.heap.size + 1]? = some o2 := row_on (heap2 w o1 o2) (ball _ _)
  have h1 : (((w.alloc o1).alloc o2).alloc o3).heap[w.heap.size]? = some o1 := row_on (row_on (heap_alloc_new w o1) (ball _ _)) (ball _ _)
  exact ⟨row_on h1 hb, row_on h2 hb, row_on h3 hb, btr (btr (btr (ball _ _) (ball _ _)) (ball _ _)) hb⟩
theorem below_drewN {B : Nat} {a w : World} (h : Below B a w) (n : Nat) : Below B a (w.drewN n) := ⟨h.os, h.tape, h.output, h.size, h.block⟩
theorem Sn.grown {w w' : World} {q : Option Addr} {l : List Int} {b n : Nat} {f : Int → Int} (h : Sn w q l) (hF : Fm w b n f) (hg : w.grownBy w' (some b)) : Sn w' q l := fun i hi => by
  obtain ⟨b', o, e, hc⟩ := h i hi
  refine ⟨b', o, e, ?_⟩
  have hne : b' ≠ b := by
    rintro rfl
    obtain ⟨D, ⟨es, cl, hm, _⟩, _⟩ := hF
    simp [World.cell?, hm] at hc
  have hb := hg.block b' (cell_lt hc) (by simpa using hne)
  unfold World.cell? at hc ⊢
  simp only [hb]
  exact hc
theorem row_grown {w w' : World} {g m : Nat} {o : Obj} (h : w.heap[g]? = some o) (hg : w.grownBy w' (some m)) (hne : g ≠ m) : w'.heap[g]? = some o := by
  have hl : g < w.heap.size := by
    rcases Nat.lt_or_ge g w.heap.size with h' | h'
    · exact h'
    · simp [Array.getElem?_eq_none h'] at h
  rw [hg.block g hl (by simpa using hne)]
  exact h
structure PkR (w : World) (k : Int) (b n : Nat) (f : Int → Int) (q : Option Addr) (L : List Int) (j : Nat) (wr : World) : Prop where
  r0 : wr.heap[w.heap.size]? = some (.cells #[.int .u8 0, .map none] 61 (0, 0))
  m : Fm wr (w.heap.size + 1) j (only (L.take j) f)
  r2 : wr.heap[w.heap.size + 1 + 1]? = some (.cells #[.int .u8 k, .map (some (w.heap.size + 1))] 61 (0, 0))
  a : Fm wr b n f
  s : Sn wr q L
  bel : Below w.heap.size w wr
  ok : inB (L.take j) f = true
theorem PkR.step {w wr w3 : World} {k : Int} {b n : Nat} {f : Int → Int} {q : Option Addr} {L : List Int} {j m : Nat} (h : PkR w k b n f q L j wr) (hg : (wr.drewN m).grownBy w3 (some (w.heap.size + 1))) (hF : Fm w3 (w.heap.size + 1) (j + 1) (only (L.take (j + 1)) f)) (hok : inB (L.take (j + 1)) f = true) (hbl : b < w.heap.size) : PkR w k b n f q L (j + 1) w3 :=
  ⟨row_grown (w := wr.drewN m) h.r0 hg (by omega), hF, row_grown (w := wr.drewN m) h.r2 hg (by omega), Fm.grown (w := wr.drewN m) h.a hg (by simp; omega), Sn.grown (w := wr.drewN m) h.s h.m hg, (below_drewN h.bel m).grown hg h.bel.size (fun i hi => by cases hi; omega), hok⟩
set_option maxHeartbeats 2000000 in
set_option maxRecDepth 100000 in
theorem pick_any (k : Int) (b n : Nat) (f : Int → Int) (w : World) (hF : Fm w b n f) :
    Calls Tryd.prog 49 #[.int .u8 k, .map (some b)] w fun e w' => PickP k f w e w' := by
  have HF := hid hF
  have hbl := hF.lt
  have hmm := @run_makeMap Tryd.prog
  have TA := hid (fun w => tags_any k w)
  have hlen := tags_len k
  have HIN := hid (tags_in k)
  clear hF
  go_enter Tryd.func49, Tryd.ntmps49
  go_wp2_with (first | (go_at_call 50; refine (TA.out _).mono ?_; rintro e w2 ⟨q, cap, rfl, hS, hb⟩; have HS := hid hS; have HB2 := hid hb; clear hS hb; refine Hid.out ?_))
  refine hid ?_
  obtain ⟨r0, r1, r2, hB⟩ := three _ _ _ _ HB2.out
  have M0 : Fm w2 (w.heap.size + 1) 0 (only ((tagsL k).take 0) f) := by
    rw [List.take_zero, only_nil]
    exact ⟨.map [], ⟨#[], 0, r1, ⟨by simp, MapKept.stamped_empty 0, by simp⟩, Nat.le_refl _, rfl⟩, fun t => rfl⟩
  have PK := hid (show PkR w k b n f q (tagsL k) 0 w2 from ⟨r0, M0, r2, HF.out.on hB, HS.out, hB, by simp [inB]⟩)
  clear r0 r1 r2 M0 HS HB2 TA HF hB
  obtain ⟨L, hL⟩ : ∃ l, tagsL k = l := ⟨_, rfl⟩
  rw [hL] at PK HIN hlen
  have HP := hid (show ∀ e w', (Below w.heap.size w w' ∧ ((inB L f = false ∧ e = .returned (.tuple #[.agg #[.int .u8 0, .map none], .bool false])) ∨
    (inB L f = true ∧ ∃ b n, e = .returned (.tuple #[.agg #[.int .u8 k, .map (some b)], .bool true]) ∧ n ≤ 8 ∧ w.heap.size ≤ b ∧ Fm w' b n (only L f)))) → PickP k f w e w' by
    intro e w' h
    unfold PickP
    rw [hL]
    exact h)
  rw [hL]
  clear hL
  go_wp2
  go_loopw [15] (fun iv wr => ∃ j : Nat, j ≤ L.length ∧ iv = .int .i64 j ∧ PkR w k b n f q L j wr) (fun iv _ => L.length - (RowKit.intOf iv).toNat)
  case atStart => exact ⟨0, Nat.zero_le _, rfl, PK.out⟩
  case round =>
    obtain ⟨j, hj, rfl, hpk⟩ := hrel
    have PJ := hid hpk
    clear hpk PK
    by_cases hjl : j < L.length
    · have hjl' : (j : Int) < (L.length : Int) := by omega
      have hj0 : (0 : Int) ≤ (j : Int) := by omega
      obtain ⟨qb, qo, rfl, hcell⟩ := PJ.out.s j hjl
      have HON := hid (only_step L f j hjl)
      have HBN := hid (show inB (L.take (j + 1)) f = (inB (L.take j) f && decide (f L[j] ≤ bnd L[j])) by unfold inB; rw [List.take_succ_eq_append_getElem hjl, List.all_append]; simp)
      have HBF := hid (show ¬ f L[j] ≤ bnd L[j] → inB L f = false by
        intro h
        unfold inB
        rw [List.all_eq_false]
        exact ⟨L[j], List.getElem_mem hjl, by simpa using h⟩)
      have hti := HIN.out L[j] (List.getElem_mem hjl)
      obtain ⟨t, ht⟩ : ∃ t, L[j] = t := ⟨_, rfl⟩
      rw [ht] at hcell HON HBN HBF hti
      clear ht
      have hwt := wf_tag hti
      have hlk : ∀ m, (Instr.lookup 59 (.map (some b)) (.int .i64 t) false).run Tryd.prog (wr.drewN m) = .ok (.int .u64 (f t)) (wr.drewN m) := fun m => (show Fm (wr.drewN m) b n f from PJ.out.a).look t hwt
      have hw := PJ.out.a.wd t hwt
      clear hti
      by_cases hgt : bnd t < f t
      · have HZ := PJ.out.r0
        go_wp2
        go_quiet (first | (go_at_call 70; refine Calls.quiet_of_same (bound_any _ _)))
        go_wp2_with (first | (refine wpList_st (by rfl) 61 (.tmp 4) (.tmp 25) (by rfl) w.heap.size #[.int .u8 0, .map none] (by rfl) (by rfl) 61 #[.int .u8 0, .map none] HZ info46 rfl (by simp [Value.oneCell']) ?_; intro w3 hst; have HST := hid hst; clear hst; refine Hid.out ?_))
        refine hid ?_
        go_wp2
        exact bodyPost_ret (res46 Tryd.f49 4 5 Tryd.results49 _ _ w.heap.size #[.int .u8 0, .map none] _ (by rfl) (by rfl) HST.out.row info46) rfl (HP.out _ _ ⟨HST.out.bel _ _ (below_drewN PJ.out.bel _) (Nat.le_refl _), Or.inl ⟨HBF.out (by omega), rfl⟩⟩)
      · have hle : f t ≤ bnd t := by omega
        have hm2 : wr.cell? ⟨w.heap.size + 1 + 1, 1, none⟩ = some (.map (some (w.heap.size + 1))) := row_cell PJ.out.r2 1
        go_wp2
        go_quiet (first | (go_at_call 70; refine Calls.quiet_of_same (bound_any _ _)))
        go_wp2_with (first
          | (at_lookup; refine wpList_fm_look _ rfl _ _ rfl b n f _ rfl rfl PJ.out.a hwt ?_)
          | (at_mapUpdate; refine wpList_fm_put _ rfl _ _ _ (Or.inl rfl) (w.heap.size + 1) j _ t (f t) rfl rfl rfl PJ.out.m (by omega) hwt hw ?_; intro w3 hF3 hg3; have HF3 := hid hF3; have HG3 := hid hg3; clear hF3 hg3; refine Hid.out ?_))
        have PN := hid (show PkR w k b n f (some ⟨qb, qo, none⟩) L (j + 1) w3 from PJ.out.step HG3.out (HON.out ▸ HF3.out) (by rw [HBN.out, PJ.out.ok]; simp [hle]) hbl)
        clear HF3 HG3
        refine hid ?_
        go_wp2
        go_roundw
        case rel => exact ⟨j + 1, by omega, by go_num, PN.out⟩
        case measure => simp [RowKit.intOf]; omega
    · have hje : j = L.length := by omega
      subst hje
      have HL := hid (List.take_length (l := L))
      have hok := PJ.out.ok
      have hM := PJ.out.m
      rw [HL.out] at hok hM
      have HO := hid hok
      have HM := hid hM
      clear hok hM
      have HZ := PJ.out.r0
      have HZ2 := PJ.out.r2
      go_wp2_with (first
        | (refine wpList_load_row (by rfl) 61 (.tmp 6) (by rfl) (w.heap.size + 1 + 1) (by rfl) 61 #[.int .u8 k, .map (some (w.heap.size + 1))] (0, 0) _ HZ2 Tryd.underlying61 rfl info46 ?_)
        | (refine wpList_st (by rfl) 61 (.tmp 4) (.tmp 33) (by rfl) w.heap.size #[.int .u8 k, .map (some (w.heap.size + 1))] (by rfl) (by rfl) 61 #[.int .u8 0, .map none] HZ info46 rfl (by simp [Value.oneCell']) ?_; intro w3 hst; have HST := hid hst; clear hst; refine Hid.out ?_))
      refine hid ?_
      go_wp2
      exact bodyPost_ret (res46 Tryd.f49 4 5 Tryd.results49 _ _ w.heap.size #[.int .u8 k, .map (some (w.heap.size + 1))] _ (by rfl) (by rfl) HST.out.row info46) rfl (HP.out _ _ ⟨HST.out.bel _ _ PJ.out.bel (Nat.le_refl _), Or.inr ⟨HO.out, _, _, rfl, hlen, by omega, HST.out.fm (by omega) HM.out⟩⟩)
end Go.Proofs.YtacdjioieclggaaDoor.Msg
namespace Go.Proofs.YtacdjioieclggaaDoor.Msg
open Go.RowKit Go.Maps Go.Deep Go.Lib
set_option linter.unusedVariables false
set_option linter.unusedSimpArgs false
theorem place_in (k : Int) : ∀ t ∈ tagsL k, 0 ≤ plW k t ∧ plW k t < 7 ∧ 0 ≤ plB t ∧ plB t < 64 := by
  unfold tagsL
  intro t ht
  repeat' split at ht
  all_goals (try subst k)
  all_goals simp at ht
  all_goals (try (rcases ht with rfl | rfl | rfl | rfl | rfl | rfl | rfl | rfl))
  all_goals (try (rcases ht with rfl | rfl | rfl | rfl | rfl | rfl | rfl))
  all_goals (try (rcases ht with rfl | rfl | rfl | rfl | rfl | rfl))
  all_goals (try (rcases ht with rfl | rfl | rfl | rfl | rfl))
  all_goals (try (rcases ht with rfl | rfl | rfl | rfl))
  all_goals (try subst t)
  all_goals (simp [plW, plU, plB])
def uv (l : List Int) : List Value := l.map fun x => .int .u64 x
/-- a frame, as cells. -/
def frV (k : Int) (l : List Int) : Array Value := (.int .u8 k :: uv l).toArray
def zeros : List Int := [0, 0, 0, 0, 0, 0, 0]
def z30 : Array Value := #[.int .u8 0, .int .u64 0, .int .u64 0, .int .u64 0, .int .u64 0, .int .u64 0, .int .u64 0, .int .u64 0]
def orW (a b : Int) : Int := bits .or .u64 a b
def shW (a b : Int) : Int := IntKind.u64.wrap (a * 2 ^ b.toNat)
def fstep (k : Int) (f : Int → Int) (l : List Int) (t : Int) : List Int := l.set (plW k t).toNat (orW (l.getD (plW k t).toNat 0) (shW (f t) (plB t)))
def frW (k : Int) (f : Int → Int) (L : List Int) : List Int := L.foldl (fstep k f) zeros
theorem frW_len (k : Int) (f : Int → Int) : ∀ L, (frW k f L).length = 7 := by
  have h : ∀ (L l : List Int), (L.foldl (fstep k f) l).length = l.length := by
    intro L
    induction L with
    | nil => intro l; rfl
    | cons x L ih => intro l; rw [List.foldl_cons, ih]; simp [fstep]
  intro L
  exact h L zeros
theorem frW_step (k : Int) (f : Int → Int) (L : List Int) (j : Nat) (h : j < L.length) : frW k f (L.take (j + 1)) = fstep k f (frW k f (L.take j)) L[j] := by
  unfold frW
  rw [List.take_succ_eq_append_getElem h, List.foldl_append]
  rfl
structure FrR (w : World) (k : Int) (b n : Nat) (f : Int → Int) (q : Option Addr) (L : List Int) (l : List Int) (wr : World) : Prop where
  r0 : wr.heap[w.heap.size]? = some (.cells #[.int .u8 k, .map (some b)] 61 (0, 0))
  r1 : wr.heap[w.heap.size + 1]? = some (.cells z30 40 (0, 0))
  r2 : wr.heap[w.heap.size + 1 + 1]? = some (.cells (frV k l) 40 (0, 0))
  a : Fm wr b n f
  s : Sn wr q L
  bel : Below w.heap.size w wr
theorem row_set {w : World} {g : Nat} {o : Obj} (h : w.heap[g]? = some o) {a : Addr} (hne : g ≠ a.block) (u : Value) : (w.setCell a u).heap[g]? = some o := by
  rw [heap_setCell_other _ _ _ _ hne]
  exact h
theorem FrR.step {w wr : World} {k : Int} {b n : Nat} {f : Int → Int} {qb qo : Nat} {L l : List Int} (h : FrR w k b n f (some ⟨qb, qo, none⟩) L l wr) (W : Nat) (y : Int) (hbl : b < w.heap.size) :
    FrR w k b n f (some ⟨qb, qo, none⟩) L (l.set W y) ((wr.setCell ⟨w.heap.size + 1 + 1, 1 + W, none⟩ (.int .u64 y)).drew) := by
  have hs : Sn (wr.setCell ⟨w.heap.size + 1 + 1, 1 + W, none⟩ (.int .u64 y)) (some ⟨qb, qo, none⟩) L := fun j hj => by
    obtain ⟨b', o', e, hc⟩ := h.s j hj
    refine ⟨b', o', e, ?_⟩
    by_cases hb : b' = w.heap.size + 1 + 1
    · subst hb
      rw [row_cell h.r2] at hc
      exfalso
      have h2 : ∀ i : Nat, (frV k l)[i]? ≠ some (.int .i64 L[j]) := by
        intro i
        unfold frV uv
        cases i with
        | zero => simp
        | succ i => simp
      exact h2 _ hc
    · rw [World.cell?_setCell_other _ _ _ _ (by simp [hb])]
      exact hc
  refine ⟨row_set h.r0 (by show _ ≠ _; simp; omega) _, row_set h.r1 (by simp) _, ?_, h.a.setCell (by show _ ≠ _; simp; omega) _, hs, (h.bel.setCell (by show _ ≤ _; simp; omega) _).drew⟩
  show (wr.setCell ⟨w.heap.size + 1 + 1, 1 + W, none⟩ (.int .u64 y)).heap[w.heap.size + 1 + 1]? = _
  rw [heap_setCell_same wr _ (1 + W) _ 40 _ h.r2]
  unfold frV uv
  rw [List.setIfInBounds_toArray, Nat.add_comm 1 W, List.set_cons_succ, List.map_set]
theorem size_fr (k : Int) (l : List Int) (h : l.length = 7) : z30.size = (frV k l).size := by simp [frV, uv, h, z30]
theorem info_fr (k : Int) (l : List Int) (h : l.length = 7) : (Tryd.prog.info? 40).map (·.size) = some (frV k l).size := by rw [info30, ← size_fr k l h]; rfl
theorem one_fr (k : Int) (l : List Int) : (frV k l).all (·.oneCell') = true := by
  simp [frV, uv, Value.oneCell']
set_option maxHeartbeats 2000000 in
set_option maxRecDepth 100000 in
theorem frame_any (k : Int) (b n : Nat) (f : Int → Int) (w : World) (hF : Fm w b n f) :
    Calls Tryd.prog 35 #[.agg #[.int .u8 k, .map (some b)]] w fun e w' => e = .returned (.agg (frV k (frW k f (tagsL k)))) ∧ Below w.heap.size w w' := by
  have HF := hid hF
  have hbl := hF.lt
  have TA := hid (fun w => tags_any k w)
  have hlen := tags_len k
  have HIN := hid (tags_in k)
  have HPL := hid (place_in k)
  have PL := hid (fun t w => place_any k t w)
  clear hF
  go_enter Tryd.func35, Tryd.ntmps35
  go_wp2_with (first | (go_at_call 50; refine (TA.out _).mono ?_; rintro e w2 ⟨q, cap, rfl, hS, hb⟩; have HS := hid hS; have HB2 := hid hb; clear hS hb; refine Hid.out ?_))
  refine hid ?_
  obtain ⟨r0, r1, r2, hB⟩ := three _ _ _ _ HB2.out
  have PK := hid (show FrR w k b n f q (tagsL k) (frW k f ((tagsL k).take 0)) w2 from ⟨r0, r1, r2, HF.out.on hB, HS.out, hB⟩)
  clear r0 r1 r2 HS HB2 TA HF hB
  obtain ⟨L, hL⟩ : ∃ l, tagsL k = l := ⟨_, rfl⟩
  rw [hL] at PK HIN HPL hlen
  rw [hL]
  have HLL := hid hL
  clear hL
  go_wp2
  go_loopw [15] (fun iv wr => ∃ j : Nat, j ≤ L.length ∧ iv = .int .i64 j ∧ FrR w k b n f q L (frW k f (L.take j)) wr) (fun iv _ => L.length - (RowKit.intOf iv).toNat)
  case atStart => exact ⟨0, Nat.zero_le _, rfl, PK.out⟩
  case round =>
    obtain ⟨j, hj, rfl, hpk⟩ := hrel
    have PJ := hid hpk
    clear hpk PK
    by_cases hjl : j < L.length
    · have hjl' : (j : Int) < (L.length : Int) := by omega
      have hj0 : (0 : Int) ≤ (j : Int) := by omega
      obtain ⟨qb, qo, rfl, hcell⟩ := PJ.out.s j hjl
      have HST := hid (frW_step k f L j hjl)
      have hti := HIN.out L[j] (List.getElem_mem hjl)
      obtain ⟨p1, p2, p3, p4⟩ := HPL.out L[j] (List.getElem_mem hjl)
      obtain ⟨t, ht⟩ : ∃ t, L[j] = t := ⟨_, rfl⟩
      rw [ht] at hcell HST hti p1 p2 p3 p4
      clear ht
      have hwt := wf_tag hti
      have hlk : ∀ m, (Instr.lookup 59 (.map (some b)) (.int .i64 t) false).run Tryd.prog (wr.drewN m) = .ok (.int .u64 (f t)) (wr.drewN m) := fun m => (show Fm (wr.drewN m) b n f from PJ.out.a).look t hwt
      have hlk0 : (Instr.lookup 59 (.map (some b)) (.int .i64 t) false).run Tryd.prog wr = .ok (.int .u64 (f t)) wr := PJ.out.a.look t hwt
      have hlk1 : (Instr.lookup 59 (.map (some b)) (.int .i64 t) false).run Tryd.prog wr.drew = .ok (.int .u64 (f t)) wr.drew := (show Fm wr.drew b n f from PJ.out.a).look t hwt
      have P := hid (fun w => PL.out t w)
      have hll := frW_len k f (L.take j)
      unfold fstep at HST
      obtain ⟨W, hW⟩ : ∃ x : Nat, plW k t = (x : Int) := ⟨(plW k t).toNat, by omega⟩
      obtain ⟨S, hS⟩ : ∃ x : Nat, plB t = (x : Int) := ⟨(plB t).toNat, by omega⟩
      rw [hW, hS] at P HST
      rw [hW] at p2
      rw [hS] at p4
      have hk0 : wr.cell? ⟨w.heap.size, 0, none⟩ = some (.int .u8 k) := row_cell PJ.out.r0 0
      have hk1 : wr.cell? ⟨w.heap.size, 1, none⟩ = some (.map (some b)) := row_cell PJ.out.r0 1
      obtain ⟨l, hl⟩ : ∃ l, frW k f (L.take j) = l := ⟨_, rfl⟩
      have hfr := PJ.out.r2
      rw [hl] at hfr HST hll
      have hx : W < l.length := by omega
      have hword : wr.cell? ⟨w.heap.size + 1 + 1, 1 + W, none⟩ = some (.int .u64 (l.getD W 0)) := by
        rw [row_cell hfr (1 + W)]
        simp [frV, uv, Nat.add_comm 1 W, hx]
      have hfz : wr.frozen? ⟨w.heap.size + 1 + 1, 1 + W, none⟩ = false := frozen_of_row wr _ _ _ 40 hfr
      obtain ⟨x, hx2⟩ : ∃ x, l.getD W 0 = x := ⟨_, rfl⟩
      rw [hx2] at hword
      have i0 : (0 : Int) ≤ (W : Int) := by omega
      have i1 : (W : Int) < 7 := by omega
      have s0 : (0 : Int) ≤ (S : Int) := by omega
      have s1 : (S : Int) < 64 := by omega
      clear p1 p2 p3 p4 hW hS hti hll hx
      go_wp2_with (first | (go_at_call 69; refine (P.out _).mono ?_; rintro e wq ⟨rfl, rfl⟩; refine Hid.out ?_))
      refine hid ?_
      go_wp2
      go_region
      have PN := hid (show FrR w k b n f (some ⟨qb, qo, none⟩) L (frW k f (L.take (j + 1))) ((wq.setCell ⟨w.heap.size + 1 + 1, 1 + W, none⟩ (.int .u64 (orW x (shW (f t) S)))).drew) from by
        have h1 := PJ.out
        rw [hl] at h1
        rw [HST.out]
        have e1 : ((W : Int)).toNat = W := by omega
        rw [e1, hx2]
        exact h1.step W _ hbl)
      go_wp2
      go_roundw
      case rel => exact ⟨j + 1, by omega, by go_num, PN.out⟩
      case measure => simp [RowKit.intOf]; omega
    · have hje : j = L.length := by omega
      subst hje
      have hp := PJ.out
      rw [List.take_length (l := L)] at hp
      have HP := hid hp
      have HFI := hid (info_fr k (frW k f L) (frW_len k f L))
      have HON := hid (one_fr k (frW k f L))
      have HSZ := hid (size_fr k (frW k f L) (frW_len k f L))
      obtain ⟨F, hF⟩ : ∃ F, frV k (frW k f L) = F := ⟨_, rfl⟩
      have HZ := hp.r1
      have HZ2 := hp.r2
      rw [hF] at HZ2 HFI HON HSZ
      have HFF := hid hF
      clear hp hF PJ
      go_wp2_with (first
        | (refine wpList_load_row (by rfl) 40 (.tmp 3) (by rfl) (w.heap.size + 1 + 1) (by rfl) 40 F (0, 0) _ HZ2 Tryd.underlying40 rfl HFI.out ?_)
        | (refine wpList_st (by rfl) 40 (.tmp 2) (.tmp 40) (by rfl) (w.heap.size + 1) F (by rfl) (by rfl) 40 z30 HZ HFI.out HSZ.out HON.out ?_; intro w3 hst; have HS3 := hid hst; clear hst; refine Hid.out ?_))
      refine hid ?_
      go_wp2
      exact bodyPost_ret (results_cell_row (fn := Tryd.f35) Tryd.results35 _ _ (w.heap.size + 1) 40 F (0, 0) _ (by rfl) HS3.out.row Tryd.underlying40 rfl HFI.out) rfl ⟨by rw [HLL.out, HFF.out], HS3.out.bel _ _ HP.out.bel (by omega)⟩
end Go.Proofs.YtacdjioieclggaaDoor.Msg
namespace Go.Proofs.YtacdjioieclggaaDoor.Msg
open Go.RowKit Go.Maps Go.Deep Go.Lib
set_option linter.unusedVariables false
set_option linter.unusedSimpArgs false
theorem eqF_nil (d : Nat) (xs ys : Array Value) (w : World) : (Op.eqFields d xs ys []).run Tryd.prog w = .ok true w := by simp [Op.eqFields]
theorem eqF_any (d : Nat) (xs ys : Array Value) (f : Field) (fs : List Field) (u v : Value) (c : Bool) {r : Bool} {w : World} (hn : f.name ≠ "_") (hx : (part f.type xs f.offset).run Tryd.prog w = .ok u w) (hy : (part f.type ys f.offset).run Tryd.prog w = .ok v w)
    (hq : (Op.equalIn d f.type u v).run Tryd.prog w = .ok c w) (hr : (Op.eqFields d xs ys fs).run Tryd.prog w = .ok r w) : (Op.eqFields d xs ys (f :: fs)).run Tryd.prog w = .ok (c && r) w := by
  simp only [Op.eqFields, if_pos hn, Sem.run_bind, hx, hy, hq, Result.andThen_ok, Sem.run_ite]
  cases c
  · simp
  · simp [hr]
theorem eqF_cons (d : Nat) (xs ys : Array Value) (f : Field) (fs : List Field) (k k' : IntKind) (a b : Int) {r : Bool} {w : World} (hn : f.name ≠ "_") (hx : (part f.type xs f.offset).run Tryd.prog w = .ok (.int k a) w) (hy : (part f.type ys f.offset).run Tryd.prog w = .ok (.int k b) w)
    (hu : Tryd.prog.underlying f.type = some (.int k')) (hr : (Op.eqFields (d + 1) xs ys fs).run Tryd.prog w = .ok r w) : (Op.eqFields (d + 1) xs ys (f :: fs)).run Tryd.prog w = .ok ((a == b) && r) w :=
  eqF_any (d + 1) xs ys f fs _ _ (a == b) hn hx hy (run_equalIn_int w d f.type k k' a b hu) hr
theorem part_int (t : TypeId) (xs : Array Value) (o : Nat) (v : Value) (ha : ∀ w, (isAgg t).run Tryd.prog w = .ok false w) (h : xs[o]? = some v) (w : World) : (part t xs o).run Tryd.prog w = .ok v w := by
  simp [part, Sem.run_bind, ha, h]
theorem under25 : Tryd.prog.underlying 25 = some (.struct (Tryd.prog.fieldsOf 25)) := by kernel_rfl
theorem under27 : Tryd.prog.underlying 27 = some (.struct (Tryd.prog.fieldsOf 27)) := by kernel_rfl
theorem under39 : Tryd.prog.underlying 30 = some (.struct (Tryd.prog.fieldsOf 30)) := by kernel_rfl
theorem under30 : Tryd.prog.underlying 40 = some (.struct (Tryd.prog.fieldsOf 40)) := by kernel_rfl
theorem stood25 : Tryd.prog.stoodInHeld 25 = false := by kernel_rfl
theorem stood27 : Tryd.prog.stoodInHeld 27 = false := by kernel_rfl
theorem stood39 : Tryd.prog.stoodInHeld 30 = false := by kernel_rfl
theorem stood30 : Tryd.prog.stoodInHeld 40 = false := by kernel_rfl
set_option maxRecDepth 100000 in
theorem eqC (x0 x1 x2 x3 x4 x5 x6 x7 x8 y0 y1 y2 y3 y4 y5 y6 y7 y8 : Int) (d : Nat) (w : World) : (Op.equalIn (d + 2) 25 (.agg #[.int .i64 x0, .int .u64 x1, .int .u64 x2, .int .u32 x3, .int .i64 x4, .int .i64 x5, .int .i64 x6, .int .u64 x7, .int .u64 x8]) (.agg #[.int .i64 y0, .int .u64 y1, .int .u64 y2, .int .u32 y3, .int .i64 y4, .int .i64 y5, .int .i64 y6, .int .u64 y7, .int .u64 y8])).run Tryd.prog w = .ok ((x0 == y0) && ((x1 == y1) && ((x2 == y2) && ((x3 == y3) && ((x4 == y4) && ((x5 == y5) && ((x6 == y6) && ((x7 == y7) && ((x8 == y8) && true))))))))) w := by
  rw [run_equalIn_struct w (d + 1) 25 _ _ under25 stood25]
  simp only [Program.fieldsOf, Tryd.underlying25]
  exact eqF_cons _ _ _ _ _ .i64 .i64 _ _ (by decide) (part_int 3 _ _ _ Tryd.isAgg3 rfl _) (part_int 3 _ _ _ Tryd.isAgg3 rfl _) Tryd.underlying3 (eqF_cons _ _ _ _ _ .u64 .u64 _ _ (by decide) (part_int 22 _ _ _ Tryd.isAgg22 rfl _) (part_int 22 _ _ _ Tryd.isAgg22 rfl _) Tryd.underlying22 (eqF_cons _ _ _ _ _ .u64 .u64 _ _ (by decide) (part_int 22 _ _ _ Tryd.isAgg22 rfl _) (part_int 22 _ _ _ Tryd.isAgg22 rfl _) Tryd.underlying22 (eqF_cons _ _ _ _ _ .u32 .u32 _ _ (by decide) (part_int 23 _ _ _ Tryd.isAgg23 rfl _) (part_int 23 _ _ _ Tryd.isAgg23 rfl _) Tryd.underlying23 (eqF_cons _ _ _ _ _ .i64 .i64 _ _ (by decide) (part_int 3 _ _ _ Tryd.isAgg3 rfl _) (part_int 3 _ _ _ Tryd.isAgg3 rfl _) Tryd.underlying3 (eqF_cons _ _ _ _ _ .i64 .i64 _ _ (by decide) (part_int 3 _ _ _ Tryd.isAgg3 rfl _) (part_int 3 _ _ _ Tryd.isAgg3 rfl _) Tryd.underlying3 (eqF_cons _ _ _ _ _ .i64 .i64 _ _ (by decide) (part_int 3 _ _ _ Tryd.isAgg3 rfl _) (part_int 3 _ _ _ Tryd.isAgg3 rfl _) Tryd.underlying3 (eqF_cons _ _ _ _ _ .u64 .u64 _ _ (by decide) (part_int 22 _ _ _ Tryd.isAgg22 rfl _) (part_int 22 _ _ _ Tryd.isAgg22 rfl _) Tryd.underlying22 (eqF_cons _ _ _ _ _ .u64 .u64 _ _ (by decide) (part_int 22 _ _ _ Tryd.isAgg22 rfl _) (part_int 22 _ _ _ Tryd.isAgg22 rfl _) Tryd.underlying22 (eqF_nil _ _ _ _)))))))))
theorem part_cmd (x0 x1 x2 x3 x4 x5 x6 x7 x8 x9 x10 : Int) (w : World) : (part 25 (iV x0 x1 x2 x3 x4 x5 x6 x7 x8 x9 x10) 1).run Tryd.prog w = .ok (.agg #[.int .i64 x1, .int .u64 x2, .int .u64 x3, .int .u32 x4, .int .i64 x5, .int .i64 x6, .int .i64 x7, .int .u64 x8, .int .u64 x9]) w := by
  have a := Tryd.isAgg25
  have z := Tryd.sizeOf25
  simp [part, Sem.run_bind, a, z, iV]
set_option maxRecDepth 100000 in
theorem eqI (x0 x1 x2 x3 x4 x5 x6 x7 x8 x9 x10 y0 y1 y2 y3 y4 y5 y6 y7 y8 y9 y10 : Int) (w : World) : (Op.equalIn 10000 27 (.agg (iV x0 x1 x2 x3 x4 x5 x6 x7 x8 x9 x10)) (.agg (iV y0 y1 y2 y3 y4 y5 y6 y7 y8 y9 y10))).run Tryd.prog w = .ok ((x0 == y0) && (((x1 == y1) && ((x2 == y2) && ((x3 == y3) && ((x4 == y4) && ((x5 == y5) && ((x6 == y6) && ((x7 == y7) && ((x8 == y8) && ((x9 == y9) && true))))))))) && ((x10 == y10) && true))) w := by
  rw [show (10000 : Nat) = 9999 + 1 from rfl, run_equalIn_struct w 9999 27 _ _ under27 stood27]
  simp only [Program.fieldsOf, Tryd.underlying27]
  exact eqF_cons 9998 _ _ _ _ .i64 .i64 _ _ (by decide) (part_int 3 _ _ _ Tryd.isAgg3 rfl _) (part_int 3 _ _ _ Tryd.isAgg3 rfl _) Tryd.underlying3 (eqF_any 9999 _ _ _ _ _ _ _ (by decide) (part_cmd _ _ _ _ _ _ _ _ _ _ _ _) (part_cmd _ _ _ _ _ _ _ _ _ _ _ _) (eqC _ _ _ _ _ _ _ _ _ _ _ _ _ _ _ _ _ _ 9997 w) (eqF_cons 9998 _ _ _ _ .i64 .i64 _ _ (by decide) (part_int 3 _ _ _ Tryd.isAgg3 rfl _) (part_int 3 _ _ _ Tryd.isAgg3 rfl _) Tryd.underlying3 (eqF_nil _ _ _ _)))
set_option maxRecDepth 100000 in
theorem eqE (x0 x1 x2 x3 x4 x5 x6 x7 x8 x9 x10 x11 x12 y0 y1 y2 y3 y4 y5 y6 y7 y8 y9 y10 y11 y12 : Int) (w : World) : (Op.equalIn 10000 30 (.agg (eV x0 x1 x2 x3 x4 x5 x6 x7 x8 x9 x10 x11 x12)) (.agg (eV y0 y1 y2 y3 y4 y5 y6 y7 y8 y9 y10 y11 y12))).run Tryd.prog w = .ok ((x0 == y0) && ((x1 == y1) && ((x2 == y2) && ((x3 == y3) && ((x4 == y4) && ((x5 == y5) && ((x6 == y6) && ((x7 == y7) && ((x8 == y8) && ((x9 == y9) && ((x10 == y10) && ((x11 == y11) && ((x12 == y12) && true))))))))))))) w := by
  rw [show (10000 : Nat) = 9999 + 1 from rfl, run_equalIn_struct w 9999 30 _ _ under39 stood39]
  simp only [Program.fieldsOf, Tryd.underlying30]
  exact eqF_cons _ _ _ _ _ .u64 .u64 _ _ (by decide) (part_int 22 _ _ _ Tryd.isAgg22 rfl _) (part_int 22 _ _ _ Tryd.isAgg22 rfl _) Tryd.underlying22 (eqF_cons _ _ _ _ _ .i64 .i64 _ _ (by decide) (part_int 3 _ _ _ Tryd.isAgg3 rfl _) (part_int 3 _ _ _ Tryd.isAgg3 rfl _) Tryd.underlying3 (eqF_cons _ _ _ _ _ .u64 .u64 _ _ (by decide) (part_int 22 _ _ _ Tryd.isAgg22 rfl _) (part_int 22 _ _ _ Tryd.isAgg22 rfl _) Tryd.underlying22 (eqF_cons _ _ _ _ _ .u64 .u64 _ _ (by decide) (part_int 22 _ _ _ Tryd.isAgg22 rfl _) (part_int 22 _ _ _ Tryd.isAgg22 rfl _) Tryd.underlying22 (eqF_cons _ _ _ _ _ .u64 .u64 _ _ (by decide) (part_int 22 _ _ _ Tryd.isAgg22 rfl _) (part_int 22 _ _ _ Tryd.isAgg22 rfl _) Tryd.underlying22 (eqF_cons _ _ _ _ _ .u32 .u32 _ _ (by decide) (part_int 23 _ _ _ Tryd.isAgg23 rfl _) (part_int 23 _ _ _ Tryd.isAgg23 rfl _) Tryd.underlying23 (eqF_cons _ _ _ _ _ .i64 .i64 _ _ (by decide) (part_int 3 _ _ _ Tryd.isAgg3 rfl _) (part_int 3 _ _ _ Tryd.isAgg3 rfl _) Tryd.underlying3 (eqF_cons _ _ _ _ _ .i64 .i64 _ _ (by decide) (part_int 3 _ _ _ Tryd.isAgg3 rfl _) (part_int 3 _ _ _ Tryd.isAgg3 rfl _) Tryd.underlying3 (eqF_cons _ _ _ _ _ .i64 .i64 _ _ (by decide) (part_int 3 _ _ _ Tryd.isAgg3 rfl _) (part_int 3 _ _ _ Tryd.isAgg3 rfl _) Tryd.underlying3 (eqF_cons _ _ _ _ _ .u64 .u64 _ _ (by decide) (part_int 22 _ _ _ Tryd.isAgg22 rfl _) (part_int 22 _ _ _ Tryd.isAgg22 rfl _) Tryd.underlying22 (eqF_cons _ _ _ _ _ .u64 .u64 _ _ (by decide) (part_int 22 _ _ _ Tryd.isAgg22 rfl _) (part_int 22 _ _ _ Tryd.isAgg22 rfl _) Tryd.underlying22 (eqF_cons _ _ _ _ _ .i64 .i64 _ _ (by decide) (part_int 3 _ _ _ Tryd.isAgg3 rfl _) (part_int 3 _ _ _ Tryd.isAgg3 rfl _) Tryd.underlying3 (eqF_cons _ _ _ _ _ .i64 .i64 _ _ (by decide) (part_int 28 _ _ _ Tryd.isAgg28 rfl _) (part_int 28 _ _ _ Tryd.isAgg28 rfl _) Tryd.underlying28 (eqF_nil _ _ _ _)))))))))))))
theorem eq_word (d : Nat) (a b : Int) (w : World) : (Op.equalIn (d + 1) 22 (.int .u64 a) (.int .u64 b)).run Tryd.prog w = .ok (a == b) w := run_equalIn_int w d 22 .u64 .u64 a b Tryd.underlying22
set_option maxRecDepth 100000 in
theorem eqW (x0 x1 x2 x3 x4 x5 x6 y0 y1 y2 y3 y4 y5 y6 : Int) (d : Nat) (w : World) : (Op.equalIn (d + 2) 38 (.agg #[.int .u64 x0, .int .u64 x1, .int .u64 x2, .int .u64 x3, .int .u64 x4, .int .u64 x5, .int .u64 x6]) (.agg #[.int .u64 y0, .int .u64 y1, .int .u64 y2, .int .u64 y3, .int .u64 y4, .int .u64 y5, .int .u64 y6])).run Tryd.prog w = .ok ((x0 == y0) && ((x1 == y1) && ((x2 == y2) && ((x3 == y3) && ((x4 == y4) && ((x5 == y5) && ((x6 == y6) && true))))))) w := by
  have a3' := Tryd.isAgg22
  have z3 := Tryd.sizeOf22
  rw [Op.equalIn]
  simp only [Sem.run_bind, run_underlying Tryd.underlying38, Result.andThen_ok]
  simp only [Std.Legacy.Range.forIn_eq_forIn_range', Std.Legacy.Range.size, Nat.sub_zero, Nat.add_sub_cancel, Nat.div_one, List.range'_succ, List.range'_zero, List.forIn_cons, List.forIn_nil]
  by_cases g0 : ¬ x0 = y0
  · simp [part, z3, a3', Sem.run_bind, eq_word, g0]
  have h0 := Decidable.not_not.1 g0
  clear g0
  by_cases g1 : ¬ x1 = y1
  · simp [part, z3, a3', Sem.run_bind, eq_word, h0, g1]
  have h1 := Decidable.not_not.1 g1
  clear g1
  by_cases g2 : ¬ x2 = y2
  · simp [part, z3, a3', Sem.run_bind, eq_word, h0, h1, g2]
  have h2 := Decidable.not_not.1 g2
  clear g2
  by_cases g3 : ¬ x3 = y3
  · simp [part, z3, a3', Sem.run_bind, eq_word, h0, h1, h2, g3]
  have h3 := Decidable.not_not.1 g3
  clear g3
  by_cases g4 : ¬ x4 = y4
  · simp [part, z3, a3', Sem.run_bind, eq_word, h0, h1, h2, h3, g4]
  have h4 := Decidable.not_not.1 g4
  clear g4
  by_cases g5 : ¬ x5 = y5
  · simp [part, z3, a3', Sem.run_bind, eq_word, h0, h1, h2, h3, h4, g5]
  have h5 := Decidable.not_not.1 g5
  clear g5
  by_cases g6 : ¬ x6 = y6
  · simp [part, z3, a3', Sem.run_bind, eq_word, h0, h1, h2, h3, h4, h5, g6]
  have h6 := Decidable.not_not.1 g6
  clear g6
  simp [part, z3, a3', Sem.run_bind, eq_word, h0, h1, h2, h3, h4, h5, h6]
theorem part_words (k x0 x1 x2 x3 x4 x5 x6 : Int) (w : World) : (part 38 (frV k [x0, x1, x2, x3, x4, x5, x6]) 1).run Tryd.prog w = .ok (.agg #[.int .u64 x0, .int .u64 x1, .int .u64 x2, .int .u64 x3, .int .u64 x4, .int .u64 x5, .int .u64 x6]) w := by
  have a := Tryd.isAgg38
  have z := Tryd.sizeOf38
  simp [part, Sem.run_bind, a, z, frV, uv]
theorem eqFr (k l x0 x1 x2 x3 x4 x5 x6 y0 y1 y2 y3 y4 y5 y6 : Int) (w : World) : (Op.equalIn 10000 40 (.agg (frV k [x0, x1, x2, x3, x4, x5, x6])) (.agg (frV l [y0, y1, y2, y3, y4, y5, y6]))).run Tryd.prog w = .ok ((k == l) && (((x0 == y0) && ((x1 == y1) && ((x2 == y2) && ((x3 == y3) && ((x4 == y4) && ((x5 == y5) && ((x6 == y6) && true))))))) && true)) w := by
  rw [show (10000 : Nat) = 9999 + 1 from rfl, run_equalIn_struct w 9999 40 _ _ under30 stood30]
  simp only [Program.fieldsOf, Tryd.underlying40]
  exact eqF_cons 9998 _ _ _ _ .u8 .u8 _ _ (by decide) (part_int 5 _ _ _ Tryd.isAgg5 rfl _) (part_int 5 _ _ _ Tryd.isAgg5 rfl _) Tryd.underlying5 (eqF_any 9999 _ _ _ _ _ _ _ (by decide) (part_words _ _ _ _ _ _ _ _ _) (part_words _ _ _ _ _ _ _ _ _) (eqW _ _ _ _ _ _ _ _ _ _ _ _ _ _ 9997 w) (eqF_nil _ _ _ _))
end Go.Proofs.YtacdjioieclggaaDoor.Msg
